/-
  An arena's Row, Set and Clear.
-/
import Derived.Test.YthkdmjbdcnaklaaRepI
namespace Go.Proofs.Ythkdmjbdcnaklaa
open Go.RowKit

def homeN {X : Type} (s : St X) (n : Int) : Int := if hasN s n = true then s.rw n.toNat else -1
theorem rowI {p : Pl} {s : St Int} {w : World} (h : ArI w p s) (n : Int) :
    Calls Try.prog 22 #[.pointer (some ⟨p.A, 0, none⟩), .int .i64 n] w fun e w' => e = .returned (.int .i64 (homeN s n)) ∧ w' = w := by
  have h2 := h.c2
  by_cases a : hasN s n = true
  · have hv : homeN s n = s.rw n.toNat := if_pos a
    obtain ⟨a1, a2, a3⟩ := (hasN_iff s n).1 a
    obtain ⟨m, rfl⟩ : ∃ m : Nat, n = m := ⟨n.toNat, by omega⟩
    obtain ⟨g, hg⟩ := h.at (by omega)
    rw [hg] at h2
    have h3 := h.rw hg (i := m) (by omega)
    go_enter Try.func22, Try.ntmps22
    go_wp2_with fail
    refine (hasThingI h _).mono ?_
    rintro e w1 ⟨rfl, rfl⟩
    go_wp2_with fail
    go_ret
    exact ⟨by first | rfl | (rw [hv]; rfl), rfl⟩
  · have a' : hasN s n = false := by simpa using a
    have hv : homeN s n = -1 := if_neg a
    go_enter Try.func22, Try.ntmps22
    go_wp2_with fail
    refine (hasThingI h _).mono ?_
    rintro e w1 ⟨rfl, rfl⟩
    go_wp2_with fail
    go_ret
    exact ⟨by first | rfl | (rw [hv]; rfl), rfl⟩

variable {w : World} {p : Pl} {nr : Nat} {room : Int} {q : Nat → List Nat} {th : Nat → Int}

theorem rep_row (h : RepI w p nr room q th) {i n : Nat} (hi : i < nr) (hn : n ∈ q i) :
    Calls Try.prog 22 #[.pointer (some ⟨p.A, 0, none⟩), .int .i64 n] w fun e w' => e = .returned (.int .i64 i) ∧ w' = w := by
  obtain ⟨s, a, v, rfl, rfl, t⟩ := h.ex
  refine (rowI a n).mono fun e w' ⟨he, hw⟩ => ⟨?_, hw⟩
  rw [he, show homeN s n = s.rw n from if_pos (has_yes v hi hn), (v.row i hi n hn).2]
theorem rep_row_no (h : RepI w p nr room q th) {n : Int} (hn : Non nr q n) :
    Calls Try.prog 22 #[.pointer (some ⟨p.A, 0, none⟩), .int .i64 n] w fun e w' => e = .returned (.int .i64 (-1)) ∧ w' = w := by
  obtain ⟨s, a, v, rfl, rfl, t⟩ := h.ex
  refine (rowI a n).mono fun e w' ⟨he, hw⟩ => ⟨?_, hw⟩
  rw [he, show homeN s n = -1 from if_neg (by rw [has_no v hn]; simp)]

theorem rep_set (h : RepI w p nr room q th) {i n : Nat} (hi : i < nr) (hn : n ∈ q i) (x : Int) :
    Calls Try.prog 34 #[.pointer (some ⟨p.A, 0, none⟩), .int .i64 n, .int .i64 x] w fun e w' => e = .returned (.bool true) ∧ RepI w' p nr room q (upd th n x) ∧ Stp w p w' p := by
  obtain ⟨s, a, v, rfl, rfl, t⟩ := h.ex
  have hh := has_yes v hi hn
  have hlt := (v.row i hi n hn).1
  obtain ⟨g, hg⟩ := a.at (by omega)
  have h2 := a.c2
  rw [hg] at h2
  have h3 := a.th hg hlt
  have hz := a.gf hg (n * 4)
  have k1 := a.setTh tysI hg n x
  have HR : Hid (RepI (w.setCell ⟨g, n * 4, none⟩ (.int .i64 x)) p s.nr s.room q (upd th n x)) := by
    refine ⟨_, k1, ⟨⟨v.nr, v.room, v.nc, v.row, v.nodup, v.fi, v.la, v.co, v.nx, v.bk, v.hp⟩, v.all, v.fr, v.cnt⟩, rfl, rfl, fun j hj m hm => ?_⟩
    show upd s.th n x m = upd th n x m
    by_cases e : m = n
    · subst e; rw [upd_same, upd_same]
    · rw [upd_other _ _ e, upd_other _ _ e]; exact t j hj m hm
  have HS : Hid (Stp w p (w.setCell ⟨g, n * 4, none⟩ (.int .i64 x)) p) := (Stp.refl w p).setCell (a := ⟨g, _, none⟩) (.inr (.inr (.inl (by rw [hg]; rfl)))) _
  have cH := hasThingI a n
  rw [hh] at cH
  clear k1
  go_enter Try.func34, Try.ntmps34
  go_wp2_with fail
  refine cH.mono ?_
  rintro e w1 ⟨rfl, rfl⟩
  go_wp2_with fail
  go_ret
  exact ⟨rfl, HR.out, HS.out⟩
theorem rep_set_no (h : RepI w p nr room q th) {n : Int} (hn : Non nr q n) (x : Int) :
    Calls Try.prog 34 #[.pointer (some ⟨p.A, 0, none⟩), .int .i64 n, .int .i64 x] w fun e w' => e = .returned (.bool false) ∧ w' = w := by
  obtain ⟨s, a, v, rfl, rfl, t⟩ := h.ex
  have hh := has_no v hn
  have cH := hasThingI a n
  rw [hh] at cH
  go_enter Try.func34, Try.ntmps34
  go_wp2_with fail
  refine cH.mono ?_
  rintro e w1 ⟨rfl, rfl⟩
  go_wp2_with fail
  go_ret
  exact ⟨rfl, rfl⟩

theorem upd_upd {X : Type} (f : Nat → X) (i : Nat) (a b : X) : upd (upd f i a) i b = upd f i b := by
  funext k
  unfold upd
  split <;> rfl
theorem upd_self {X : Type} (f : Nat → X) (i : Nat) : upd f i (f i) = f := by
  funext k
  unfold upd
  split
  · rename_i e; rw [e]
  · rfl

set_option maxRecDepth 100000 in
theorem rep_clear (h : RepI w p nr room q th) {i : Nat} (hi : i < nr) :
    Calls Try.prog 17 #[.pointer (some ⟨p.A, 0, none⟩), .int .i64 i] w fun e w' => e = .returned (.int .i64 (q i).length) ∧ ∃ p', RepI w' p' nr room (upd q i []) th ∧ Stp w p w' p' := by
  have hb := h.bound
  have hle := total_ge q i nr hi
  have hm : (q i).length ≤ 65536 := by omega
  have cL := rep_lenI h hi
  go_enter Try.func17, Try.ntmps17
  go_wp2_with fail
  refine cL.mono ?_
  rintro e w1 ⟨rfl, rfl⟩
  clear cL
  go_wp2_with fail
  go_loopw [10] (fun v wr => ∃ (k : Nat) (p' : Pl), k ≤ (q i).length ∧ v = .int .i64 k ∧ RepI wr p' nr room (upd q i ((q i).drop k)) th ∧ Stp w1 p wr p') (fun v _ => (q i).length - (intOf v).toNat)
  case atStart => exact ⟨0, p, by omega, rfl, by rw [List.drop_zero, upd_self]; exact h, Stp.refl _ _⟩
  case round =>
    obtain ⟨k, p', hk, rfl, hr, hst⟩ := hrel
    by_cases hlt : k < (q i).length
    · obtain ⟨n, hn, hv⟩ := nth_lt hlt
      have hd0 : (upd q i ((q i).drop k) i)[0]? = some n := by rw [upd_same, List.getElem?_drop]; exact hn
      have cF := rep_firstI hr hi
      rw [hst.A, nth_some hd0] at cF
      have cT := rep_takeI hr hi hd0
      rw [hst.A] at cT
      go_wp2_with fail
      refine cF.mono ?_
      rintro e w2 ⟨rfl, rfl⟩
      go_wp2_with fail
      refine cT.mono ?_
      rintro e w3 ⟨rfl, p3, r3, st3⟩
      go_wp2_with fail
      go_round
      case rel =>
        refine ⟨k + 1, p3, by omega, by go_num, ?_, hst.trans st3⟩
        refine r3.congr ?_ (fun _ _ _ _ => rfl)
        rw [upd_upd, upd_same]
        congr 1
        rw [List.eraseIdx_zero, List.tail_drop]
      case measure => simp [intOf]; omega
    · have hke : k = (q i).length := by omega
      go_wp2_with fail
      go_ret
      refine ⟨rfl, p', ?_, hst⟩
      rw [hke, List.drop_length] at hr
      exact hr
theorem rep_clear_no (h : RepI w p nr room q th) {i : Int} (hi : i < 0 ∨ (nr : Int) ≤ i) :
    Calls Try.prog 17 #[.pointer (some ⟨p.A, 0, none⟩), .int .i64 i] w fun e w' => e = .returned (.int .i64 0) ∧ w' = w := by
  have cL := rep_len_noI h hi
  go_enter Try.func17, Try.ntmps17
  go_wp2_with fail
  refine cL.mono ?_
  rintro e w1 ⟨rfl, rfl⟩
  clear cL
  go_wp2_with fail
  go_loop [10] (fun v => v = .int .i64 0) (fun _ => 0)
  case atStart => rfl
  case round =>
    subst hrel
    go_wp2_with fail
    go_ret
    exact ⟨rfl, rfl⟩

end Go.Proofs.Ythkdmjbdcnaklaa
