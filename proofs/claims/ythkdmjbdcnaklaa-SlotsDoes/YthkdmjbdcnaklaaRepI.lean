/-
  An arena as rows of numbers with things: each call by what it does to them.
-/
import Derived.Test.YthkdmjbdcnaklaaInv2
import Derived.Test.YthkdmjbdcnaklaaNewI
namespace Go.Proofs.Ythkdmjbdcnaklaa
open Go.RowKit

/-- The least number that no row has. -/
def Least (nr : Nat) (q : Nat → List Nat) (n : Nat) : Prop := (∀ i, i < nr → n ∉ q i) ∧ ∀ m, m < n → ∃ i, i < nr ∧ m ∈ q i
theorem Least.eq {nr : Nat} {q : Nat → List Nat} {n m : Nat} (h : Least nr q n) (k : Least nr q m) : n = m := by
  rcases Nat.lt_trichotomy n m with e | e | e
  · obtain ⟨i, hi, hm⟩ := k.2 n e; exact absurd hm (h.1 i hi)
  · exact e
  · obtain ⟨i, hi, hm⟩ := h.2 m e; exact absurd hm (k.1 i hi)

structure RepI (w : World) (p : Pl) (nr : Nat) (room : Int) (q : Nat → List Nat) (th : Nat → Int) : Prop where
  ex : ∃ s : St Int, ArI w p s ∧ Inv s q ∧ s.nr = nr ∧ s.room = room ∧ ∀ i, i < nr → ∀ n, n ∈ q i → s.th n = th n

variable {w : World} {p : Pl} {nr : Nat} {room : Int} {q : Nat → List Nat} {th : Nat → Int}

theorem RepI.quiet {w' : World} (h : RepI w p nr room q th) (m : Mv w w' (fun _ => False)) : RepI w' p nr room q th := by
  obtain ⟨s, a, r⟩ := h.ex
  exact ⟨s, a.quiet m, r⟩
theorem RepI.mv {w' : World} {F : Nat → Prop} (h : RepI w p nr room q th) (m : Mv w w' F) (hF : ∀ k, Foot p k → ¬ F k) : RepI w' p nr room q th := by
  obtain ⟨s, a, r⟩ := h.ex
  exact ⟨s, a.mv m hF, r⟩
theorem RepI.lt (h : RepI w p nr room q th) : ∀ k, Foot p k → k < w.heap.size := by
  obtain ⟨s, a, r⟩ := h.ex
  exact a.lt
theorem RepI.bound (h : RepI w p nr room q th) : 1 ≤ nr ∧ nr ≤ 65536 ∧ 0 ≤ room ∧ room ≤ 65536 ∧ (total q nr : Int) ≤ room := by
  obtain ⟨s, a, v, rfl, rfl, _⟩ := h.ex
  have := v.nr
  have := v.room
  have := v.cnt
  have := v.nc
  omega
theorem RepI.nodup (h : RepI w p nr room q th) {i : Nat} (hi : i < nr) : (q i).Nodup := by
  obtain ⟨s, a, v, rfl, rfl, _⟩ := h.ex
  exact v.nodup i hi
theorem RepI.apart (h : RepI w p nr room q th) {i j n : Nat} (hi : i < nr) (hj : j < nr) (hm : n ∈ q i) (hm' : n ∈ q j) : i = j := by
  obtain ⟨s, a, v, rfl, rfl, _⟩ := h.ex
  have e1 := (v.row i hi n hm).2
  have e2 := (v.row j hj n hm').2
  omega
theorem RepI.below (h : RepI w p nr room q th) {i n : Nat} (hi : i < nr) (hm : n ∈ q i) : (n : Int) < room := by
  obtain ⟨s, a, v, rfl, rfl, _⟩ := h.ex
  have e1 := (v.row i hi n hm).1
  have := v.nc
  omega
theorem RepI.congr {q' : Nat → List Nat} {th' : Nat → Int} (h : RepI w p nr room q th) (hq : q = q') (ht : ∀ i, i < nr → ∀ n, n ∈ q i → th n = th' n) : RepI w p nr room q' th' := by
  subst hq
  obtain ⟨s, a, v, rfl, rfl, t⟩ := h.ex
  exact ⟨s, a, v, rfl, rfl, fun i hi n hn => (t i hi n hn).trans (ht i hi n hn)⟩

theorem rep_newI (n : Nat) (room : Int) (hn : 1 ≤ n) (hn2 : n ≤ 65536) (h0 : 0 ≤ room) (h1 : room ≤ 65536) (th : Nat → Int) (w : World) :
    Calls Try.prog 7 #[.int .i64 n, .int .i64 room] w fun e w' => e = .returned (.tuple #[.pointer (some ⟨w.heap.size + 1, 0, none⟩), .int .i64 0]) ∧ RepI w' (newP w) n room (fun _ => []) th ∧ Mv w w' (fun _ => False) :=
  (newGoI n room hn hn2 h0 h1 w).mono fun e w' ⟨he, ha, hm⟩ => ⟨he, ⟨_, ha, new_inv n room _ hn hn2 h0 h1, rfl, rfl, fun i hi m hm => by simp at hm⟩, hm⟩

theorem has_yes {X : Type} {s : St X} {q : Nat → List Nat} (v : Inv s q) {i n : Nat} (hi : i < s.nr) (hn : n ∈ q i) : hasN s n = true := by
  have := v.row i hi n hn
  exact (hasN_iff s n).2 ⟨by omega, by omega, by rw [Int.toNat_natCast, this.2]; omega⟩
/-- No thing has this number. -/
def Non (nr : Nat) (q : Nat → List Nat) (n : Int) : Prop := ∀ i, i < nr → ∀ m : Nat, n = m → m ∉ q i
theorem has_no {X : Type} {s : St X} {q : Nat → List Nat} (v : Inv s q) {n : Int} (hn : Non s.nr q n) : hasN s n = false := by
  apply Bool.eq_false_iff.2
  intro hh
  obtain ⟨a, b, c⟩ := (hasN_iff s n).1 hh
  obtain ⟨i, hi, _, hm⟩ := v.all n.toNat (by omega) c
  exact hn i hi n.toNat (by omega) hm

theorem rep_get_yesI (h : RepI w p nr room q th) {i n : Nat} (hi : i < nr) (hn : n ∈ q i) :
    Calls Try.prog 21 #[.pointer (some ⟨p.A, 0, none⟩), .int .i64 n] w fun e w' => e = .returned (.tuple #[encI (th n), .bool true]) ∧ w' = w := by
  obtain ⟨s, a, v, rfl, rfl, t⟩ := h.ex
  refine (getI_any a n).mono fun e w' ⟨he, hw⟩ => ⟨?_, hw⟩
  have hh := has_yes v hi hn
  rw [he, hh, show getI s n = s.th n from if_pos hh, t i hi n hn]
theorem rep_get_noI (h : RepI w p nr room q th) {n : Int} (hn : Non nr q n) :
    Calls Try.prog 21 #[.pointer (some ⟨p.A, 0, none⟩), .int .i64 n] w fun e w' => e = .returned (.tuple #[encI (0 : Int), .bool false]) ∧ w' = w := by
  obtain ⟨s, a, v, rfl, rfl, t⟩ := h.ex
  refine (getI_any a n).mono fun e w' ⟨he, hw⟩ => ⟨?_, hw⟩
  have hh := has_no v hn
  rw [he, hh, show getI s n = (0 : Int) from if_neg (by rw [hh]; simp)]

theorem rep_firstI (h : RepI w p nr room q th) {i : Nat} (hi : i < nr) :
    Calls Try.prog 18 #[.pointer (some ⟨p.A, 0, none⟩), .int .i64 i] w fun e w' => e = .returned (.int .i64 (nth (q i) 0)) ∧ w' = w := by
  obtain ⟨s, a, v, rfl, rfl, t⟩ := h.ex
  refine (firstI a i).mono fun e w' ⟨he, hw⟩ => ⟨?_, hw⟩
  rw [he, show firstN s i = s.fi i from if_pos ((rowN_iff s i).2 ⟨by omega, by omega⟩), v.fi i hi]
theorem rep_first_noI (h : RepI w p nr room q th) {i : Int} (hi : i < 0 ∨ nr ≤ i) :
    Calls Try.prog 18 #[.pointer (some ⟨p.A, 0, none⟩), .int .i64 i] w fun e w' => e = .returned (.int .i64 (-1)) ∧ w' = w := by
  obtain ⟨s, a, v, rfl, rfl, t⟩ := h.ex
  refine (firstI a i).mono fun e w' ⟨he, hw⟩ => ⟨?_, hw⟩
  rw [he, show firstN s i = -1 from if_neg (by rw [rowN_iff]; omega)]
theorem rep_lenI (h : RepI w p nr room q th) {i : Nat} (hi : i < nr) :
    Calls Try.prog 19 #[.pointer (some ⟨p.A, 0, none⟩), .int .i64 i] w fun e w' => e = .returned (.int .i64 (q i).length) ∧ w' = w := by
  obtain ⟨s, a, v, rfl, rfl, t⟩ := h.ex
  refine (lenI a i).mono fun e w' ⟨he, hw⟩ => ⟨?_, hw⟩
  rw [he, show lenN s i = s.co i from if_pos ((rowN_iff s i).2 ⟨by omega, by omega⟩), v.co i hi]
theorem rep_len_noI (h : RepI w p nr room q th) {i : Int} (hi : i < 0 ∨ nr ≤ i) :
    Calls Try.prog 19 #[.pointer (some ⟨p.A, 0, none⟩), .int .i64 i] w fun e w' => e = .returned (.int .i64 0) ∧ w' = w := by
  obtain ⟨s, a, v, rfl, rfl, t⟩ := h.ex
  refine (lenI a i).mono fun e w' ⟨he, hw⟩ => ⟨?_, hw⟩
  rw [he, show lenN s i = 0 from if_neg (by rw [rowN_iff]; omega)]
theorem rep_nextI (h : RepI w p nr room q th) {i k n : Nat} (hi : i < nr) (hk : (q i)[k]? = some n) :
    Calls Try.prog 23 #[.pointer (some ⟨p.A, 0, none⟩), .int .i64 n] w fun e w' => e = .returned (.int .i64 (nth (q i) (k + 1))) ∧ w' = w := by
  obtain ⟨s, a, v, rfl, rfl, t⟩ := h.ex
  refine (nextI a n).mono fun e w' ⟨he, hw⟩ => ⟨?_, hw⟩
  rw [he, show nextN s n = s.nx n from if_pos (has_yes v hi (some_mem hk)), v.nx i hi k n hk]
theorem rep_next_noI (h : RepI w p nr room q th) {n : Int} (hn : Non nr q n) :
    Calls Try.prog 23 #[.pointer (some ⟨p.A, 0, none⟩), .int .i64 n] w fun e w' => e = .returned (.int .i64 (-1)) ∧ w' = w := by
  obtain ⟨s, a, v, rfl, rfl, t⟩ := h.ex
  refine (nextI a n).mono fun e w' ⟨he, hw⟩ => ⟨?_, hw⟩
  rw [he, show nextN s n = -1 from if_neg (by rw [has_no v hn]; simp)]
theorem rep_freeI (h : RepI w p nr room q th) :
    Calls Try.prog 24 #[.pointer (some ⟨p.A, 0, none⟩)] w fun e w' => e = .returned (.int .i64 (room - total q nr)) ∧ Mv w w' (fun _ => False) := by
  obtain ⟨s, a, v, rfl, rfl, t⟩ := h.ex
  have := v.nc_le
  have := v.nf_le
  refine (freeI a v.room (by omega) (by omega)).mono fun e w' ⟨he, hw⟩ => ⟨?_, hw⟩
  have hc := v.cnt
  rw [he, show s.room - (s.nc : Int) + s.nf = s.room - total q s.nr by omega]

theorem rep_push_badI (h : RepI w p nr room q th) {i : Int} (hi : i < 0 ∨ nr ≤ i) (x : Int) :
    Calls Try.prog 15 #[.pointer (some ⟨p.A, 0, none⟩), .int .i64 i, encI x] w fun e w' => e = .returned (.tuple #[.int .i64 0, .int .i64 1]) ∧ w' = w := by
  obtain ⟨s, a, v, rfl, rfl, t⟩ := h.ex
  exact pushBadI a i (by rw [Bool.eq_false_iff, ne_eq, rowN_iff]; omega) x
theorem rep_push_fullI (h : RepI w p nr room q th) {i : Nat} (hi : i < nr) (hf : (total q nr : Int) = room) (x : Int) :
    Calls Try.prog 15 #[.pointer (some ⟨p.A, 0, none⟩), .int .i64 i, encI x] w fun e w' => e = .returned (.tuple #[.int .i64 0, .int .i64 40]) ∧ Mv w w' (fun _ => False) := by
  obtain ⟨s, a, v, rfl, rfl, t⟩ := h.ex
  have := v.nc_le
  have := v.nf_le
  have := v.cnt
  exact pushFullI a i ((rowN_iff s i).2 ⟨by omega, by omega⟩) x v.room (by omega) (by omega) (by omega)

theorem pre_push {X : Type} {s : St X} {n i : Nat} (h : Pre s q n) (hi : i < s.nr) : n < s.nc ∧ i < s.nr ∧ (s.la i = -1 ∨ ∃ l : Nat, s.la i = l ∧ l < s.nc) ∧ 0 ≤ s.co i ∧ s.co i ≤ 65536 :=
  ⟨h.lt, hi, h.la_ok hi, h.co_le hi (by have := h.cnt; omega)⟩

theorem rep_pushI (h : RepI w p nr room q th) {i : Nat} (hi : i < nr) (hf : (total q nr : Int) < room) (x : Int) :
    Calls Try.prog 15 #[.pointer (some ⟨p.A, 0, none⟩), .int .i64 i, encI x] w fun e w' => ∃ n, Least nr q n ∧ e = .returned (.tuple #[.int .i64 n, .int .i64 0]) ∧ ∃ p', RepI w' p' nr room (upd q i (q i ++ [n])) (upd th n x) ∧ Stp w p w' p' := by
  obtain ⟨s, a, v, rfl, rfl, t⟩ := h.ex
  have h1 := v.nc_le
  have h2 := v.nf_le
  have h3 := v.cnt
  have hrt : ∀ j, j < s.nr → ∀ m, m ∈ q j → m < s.nc ∧ s.rw m = j := fun j hj m hm => v.row j hj m hm
  by_cases hz : s.nf = 0
  · have hpre := grow_pre v hz (by omega) (0 : Int)
    refine (pushGoI a i s.nc hi x v.room (by omega) (by omega) (by omega) (fun s1 => s1 = growS s (0 : Int))
      (fun w1 a1 => (giveNewI a1 hz (by omega)).mono fun e w' ⟨he, p', a', st⟩ => ⟨he, p', _, a', rfl, st⟩) (fun s1 e => by subst e; exact pre_push hpre hi)).mono ?_
    rintro e w' ⟨he, p', s1, rfl, a', st⟩
    refine ⟨s.nc, ⟨fun j hj hm => by have := (hrt j hj _ hm).1; omega, fun m hm => ?_⟩, he, p', ⟨_, a', put_inv hpre hi x, rfl, rfl, ?_⟩, st⟩
    · have hne : s.rw m ≠ -1 := by
        intro e
        obtain ⟨k, hk, _⟩ := (v.fr m).2 ⟨m, rfl, hm, e⟩
        omega
      obtain ⟨j, hj, _, hmem⟩ := v.all m hm hne
      exact ⟨j, hj, hmem⟩
    · intro j hj m hm
      show upd (upd s.th s.nc (0 : Int)) s.nc x m = upd th s.nc x m
      by_cases e : m = s.nc
      · subst e; rw [upd_same, upd_same]
      · rw [upd_other _ _ e, upd_other _ _ e, upd_other _ _ e]
        have hm' : m ∈ q j := by
          by_cases e' : j = i
          · subst e'
            rw [upd_same, List.mem_append, List.mem_singleton] at hm
            exact hm.resolve_right e
          · rwa [upd_other _ _ e'] at hm
        exact t j hj m hm'
  · obtain ⟨m0, hm0⟩ : ∃ m0, s.nf = m0 + 1 := ⟨s.nf - 1, by omega⟩
    have h00 : Mem s.nf s.fr (s.fr 0) := ⟨0, by omega, rfl⟩
    obtain ⟨n, hn, hlt, hrw⟩ := (v.fr _).1 h00
    have hold : ∀ s1, Old s s1 → Pre s1 q n ∧ s1.th = s.th ∧ s1.nr = s.nr ∧ s1.room = s.room := by
      intro s1 ho
      obtain ⟨n', hn', hpre, _, _, hth⟩ := old_pre v ho
      obtain rfl : n = n' := by omega
      obtain ⟨_, _, _, rfl, _⟩ := ho
      exact ⟨hpre, hth, rfl, rfl⟩
    refine (pushGoI a i n hi x v.room (by omega) (by omega) (by omega) (fun s1 => Old s s1)
      (fun w1 a1 => (giveOldI a1 m0 hm0 (by omega) v.hp).mono fun e w' ⟨he, p', s1, a', ho, st⟩ => ⟨by rw [he, hn], p', s1, a', ho, st⟩) (fun s1 ho => pre_push (hold s1 ho).1 (by rw [(hold s1 ho).2.2.1]; exact hi))).mono ?_
    rintro e w' ⟨he, p', s1, ho, a', st⟩
    obtain ⟨hpre, hth, hnr, hrm⟩ := hold s1 ho
    refine ⟨n, ⟨fun j hj hm => by have := (hrt j hj _ hm).2; omega, fun m hm => ?_⟩, he, p', ⟨_, a', put_inv hpre (by rw [hnr]; exact hi) x, hnr, hrm, ?_⟩, st⟩
    · have hmc : m < s.nc := by omega
      have hne : s.rw m ≠ -1 := by
        intro e
        obtain ⟨k, hk, ek⟩ := (v.fr m).2 ⟨m, rfl, hmc, e⟩
        have := heap_least v.hp.heap k hk
        omega
      obtain ⟨j, hj, _, hmem⟩ := v.all m hmc hne
      exact ⟨j, hj, hmem⟩
    · intro j hj m hm
      show upd s1.th n x m = upd th n x m
      by_cases e : m = n
      · subst e; rw [upd_same, upd_same]
      · rw [upd_other _ _ e, upd_other _ _ e, hth]
        have hm' : m ∈ q j := by
          by_cases e' : j = i
          · subst e'
            rw [upd_same, List.mem_append, List.mem_singleton] at hm
            exact hm.resolve_right e
          · rwa [upd_other _ _ e'] at hm
        exact t j hj m hm'

theorem rep_take_noI (h : RepI w p nr room q th) {n : Int} (hn : Non nr q n) :
    Calls Try.prog 16 #[.pointer (some ⟨p.A, 0, none⟩), .int .i64 n] w fun e w' => e = .returned (.tuple #[encI (0 : Int), .bool false]) ∧ w' = w := by
  obtain ⟨s, a, v, rfl, rfl, t⟩ := h.ex
  exact takeNoI a n (has_no v hn)

theorem rep_takeI (h : RepI w p nr room q th) {i k n : Nat} (hi : i < nr) (hk : (q i)[k]? = some n) :
    Calls Try.prog 16 #[.pointer (some ⟨p.A, 0, none⟩), .int .i64 n] w fun e w' => e = .returned (.tuple #[encI (th n), .bool true]) ∧ ∃ p', RepI w' p' nr room (upd q i ((q i).eraseIdx k)) th ∧ Stp w p w' p' := by
  obtain ⟨s, a, v, rfl, rfl, t⟩ := h.ex
  have h1 := v.nc_le
  have h2 := v.nf_le
  have h3 := v.cnt
  have hr := v.row i hi n (some_mem hk)
  refine (takeGoI a n i hr.1 hi hr.2 (v.bk_ok hi hk) (v.nx_ok hi hk) (v.co_le hi (by omega)) (by omega) v.hp (v.freed_no hi hk)).mono ?_
  rintro e w' ⟨he, p', f', a', hp, hm, st⟩
  have hinv := take_inv v hi hk (0 : Int) hp hm
  refine ⟨by rw [he, t i hi n (some_mem hk)], p', ⟨_, a', hinv, rfl, rfl, fun j hj m hmem => ?_⟩, st⟩
  have hr' := hinv.row j hj m hmem
  have hne : m ≠ n := by
    rintro rfl
    have : upd s.rw m (-1) m = (j : Int) := hr'.2
    rw [upd_same] at this
    omega
  show upd s.th n (0 : Int) m = th m
  rw [upd_other _ _ hne]
  refine t j hj m ?_
  by_cases e' : j = i
  · subst e'
    rw [upd_same] at hmem
    exact (List.eraseIdx_sublist _ _).mem hmem
  · rwa [upd_other _ _ e'] at hmem

end Go.Proofs.Ythkdmjbdcnaklaa
