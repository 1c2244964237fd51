/-
  The statements' head: what the chapter's first row of calls fixes.
-/
import Derived.Test.YthkdmjbdcnaklaaRepS
namespace Go.Proofs.Ythkdmjbdcnaklaa
open Go.RowKit

theorem stp_below {w w1 w2 : World} {p p' : Pl} {B : Nat} (hb : Below B w w1) (hB : B ≤ w1.heap.size) (st : Stp w1 p w2 p') (hf : ∀ k, Foot p k → B ≤ k) : Below B w w2 ∧ ∀ k, Foot p' k → B ≤ k :=
  ⟨hb.trans (st.mv.below hB hf), fun k hk => (st.foot k hk).elim (hf k) (fun h => Nat.le_trans hB h)⟩
theorem newP_foot (w : World) : ∀ k, Foot (newP w) k → w.heap.size ≤ k := by
  rintro k (e | e | e | e)
  · rw [e]; show w.heap.size ≤ w.heap.size + 1; omega
  · rw [e]; exact Nat.le_refl _
  · cases e
  · cases e
theorem mv_below {w w1 w2 : World} {B : Nat} (hb : Below B w w1) (hB : B ≤ w1.heap.size) (m : Mv w1 w2 (fun _ => False)) : Below B w w2 := hb.trans (m.below hB (fun _ e => e.elim))

def q0 : Nat → List Nat := fun _ => []
def q1 : Nat → List Nat := upd q0 0 [0]
def q2 : Nat → List Nat := upd q1 1 [1]
def q3 : Nat → List Nat := upd q2 0 [0, 2]
theorem l0 : Least 2 q0 0 := ⟨fun i _ => by simp [q0], fun m hm => by omega⟩
theorem l1 : Least 2 q1 1 := ⟨fun i hi => by
    match i, hi with
    | 0, _ => decide
    | 1, _ => decide, fun m hm => ⟨0, by omega, by obtain rfl : m = 0 := by omega
                                                   decide⟩⟩
theorem l2 : Least 2 q2 2 := ⟨fun i hi => by
    match i, hi with
    | 0, _ => decide
    | 1, _ => decide, fun m hm => by
    match m, hm with
    | 0, _ => exact ⟨0, by omega, by decide⟩
    | 1, _ => exact ⟨1, by omega, by decide⟩⟩

set_option maxRecDepth 100000 in
set_option maxHeartbeats 1000000 in
theorem works_any (w : World) : Calls Try.prog 6 #[] w fun e w' => e = .returned (.bool true) ∧ Below w.heap.size w w' := by
  have c1 := rep_newS 2 3 (by omega) (by omega) (by omega) (by omega) (fun _ => ⟨#[]⟩) w
  go_enter Try.func6, Try.ntmps6
  go_wp2_with fail
  refine c1.mono ?_
  rintro e w1 ⟨rfl, r1, m1⟩
  have b1 : Below w.heap.size w w1 := m1.below (Nat.le_refl _) (fun _ e => e.elim)
  have f1 := newP_foot w
  have c2 := rep_pushS r1 (i := 0) (by omega) (by decide) (⟨#[97]⟩ : ByteArray)
  go_wp2_with fail
  refine c2.mono ?_
  rintro e w2 ⟨n, hn, rfl, p2, r2, st2⟩
  obtain rfl : n = 0 := hn.eq l0
  have hA2 : p2.A = w.heap.size + 1 := st2.A
  obtain ⟨b2, f2⟩ := stp_below b1 b1.size st2 f1
  have r2' := r2.congr (q' := q1) rfl (th' := upd (fun _ => ⟨#[]⟩) 0 ⟨#[97]⟩) (fun _ _ _ _ => rfl)
  have c3 := rep_pushS r2' (i := 1) (by omega) (by decide) (⟨#[98]⟩ : ByteArray)
  rw [hA2] at c3
  go_wp2_with fail
  refine c3.mono ?_
  rintro e w3 ⟨n, hn, rfl, p3, r3, st3⟩
  obtain rfl : n = 1 := hn.eq l1
  have hA3 : p3.A = w.heap.size + 1 := st3.A.trans hA2
  obtain ⟨b3, f3⟩ := stp_below b2 b2.size st3 f2
  have r3' := r3.congr (q' := q2) rfl (th' := upd (upd (fun _ => ⟨#[]⟩) 0 ⟨#[97]⟩) 1 ⟨#[98]⟩) (fun _ _ _ _ => rfl)
  have c4 := rep_pushS r3' (i := 0) (by omega) (by decide) (⟨#[99]⟩ : ByteArray)
  rw [hA3] at c4
  go_wp2_with fail
  refine c4.mono ?_
  rintro e w4 ⟨n, hn, rfl, p4, r4, st4⟩
  obtain rfl : n = 2 := hn.eq l2
  have hA4 : p4.A = w.heap.size + 1 := st4.A.trans hA3
  obtain ⟨b4, f4⟩ := stp_below b3 b3.size st4 f3
  have r4' := r4.congr (q' := q3) rfl (th' := upd (upd (upd (fun _ => ⟨#[]⟩) 0 ⟨#[97]⟩) 1 ⟨#[98]⟩) 2 ⟨#[99]⟩) (fun _ _ _ _ => rfl)
  have c5 := rep_push_fullS r4' (i := 0) (by omega) (by decide) (⟨#[100]⟩ : ByteArray)
  rw [hA4] at c5
  go_wp2_with fail
  refine c5.mono ?_
  rintro e w5 ⟨rfl, m5⟩
  have b5 := mv_below b4 b4.size m5
  have r5 := r4'.quiet m5
  have c6 := rep_nextS r5 (i := 0) (k := 0) (n := 0) (by omega) rfl
  rw [hA4, show nth (q3 0) (0 + 1) = 2 from rfl] at c6
  go_wp2_with fail
  refine c6.mono ?_
  rintro e w6 ⟨rfl, rfl⟩
  have c7 := rep_takeS r5 (i := 0) (k := 0) (n := 0) (by omega) rfl
  rw [hA4, show upd (upd (upd (fun _ => (⟨#[]⟩ : ByteArray)) 0 ⟨#[97]⟩) 1 ⟨#[98]⟩) 2 ⟨#[99]⟩ 0 = ⟨#[97]⟩ from rfl] at c7
  go_wp2_with fail
  refine c7.mono ?_
  rintro e w7 ⟨rfl, p7, r7, st7⟩
  have hA7 : p7.A = w.heap.size + 1 := st7.A.trans hA4
  obtain ⟨b7, f7⟩ := stp_below b5 b5.size st7 f4
  have c8 := rep_firstS r7 (i := 0) (by omega)
  rw [hA7, show nth (upd q3 0 ((q3 0).eraseIdx 0) 0) 0 = 2 from rfl] at c8
  go_wp2_with fail
  refine c8.mono ?_
  rintro e w8 ⟨rfl, rfl⟩
  go_wp2_with fail
  go_ret
  exact ⟨rfl, b7⟩

end Go.Proofs.Ythkdmjbdcnaklaa
