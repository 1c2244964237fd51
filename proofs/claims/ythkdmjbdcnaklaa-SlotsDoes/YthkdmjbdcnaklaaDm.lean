/-
  The walk of SlotsDoes.
-/
import Derived.Test.YthkdmjbdcnaklaaDo5
import Derived.Test.YthkdmjbdcnaklaaWorks
namespace Go.Proofs.Ythkdmjbdcnaklaa
open Go.RowKit
set_option linter.unusedVariables false

def mine : ByteArray := ⟨#[109, 105, 110, 101]⟩
theorem mine_list : mine.toList = [109, 105, 110, 101] := by first | kernel_rfl | decide +kernel | simp [mine, ByteArray.toList, ByteArray.toList.loop]

set_option maxRecDepth 100000 in
theorem does_all_any (rows room : Int) (la : Option Addr) (ll lc : Nat) (A : Nat → Act4) (w : World) (hA : Acts w la ll A) (hll : ll ≤ 9223372036854775807) :
    Calls Try.prog 3 #[.int .i64 rows, .int .i64 room, .slice la ll lc] w fun e w' => e = .returned (.bool true) ∧ Below w.heap.size w w' := by
  by_cases hok : newOk rows room = true
  · obtain ⟨g1, g2, g3, g4⟩ := (newOk_iff rows room).1 hok
    obtain ⟨R, rfl⟩ : ∃ R : Nat, rows = R := ⟨rows.toNat, by omega⟩
    obtain ⟨M, rfl⟩ : ∃ M : Nat, room = M := ⟨room.toNat, by omega⟩
    go_enter Try.func3, Try.ntmps3
    go_wp2_with fail
    refine (works_any w).mono ?_
    rintro e w1 ⟨rfl, b1⟩
    go_wp2_with fail
    refine (rep_newI R (M : Int) (by omega) (by omega) (by omega) (by omega) (fun _ => 0) w1).mono ?_
    rintro e w2 ⟨rfl, r2, m2⟩
    go_wp2_with fail
    refine (rnew R M (by omega) (by omega) (by omega) (fun _ => 0) w2).mono ?_
    rintro e w3 ⟨f, rfl, r3, m3, ff3⟩
    go_wp2_with fail
    refine (rep_newS 1 3 (by omega) (by omega) (by omega) (by omega) (fun _ => ⟨#[]⟩) w3).mono ?_
    rintro e w4 ⟨rfl, r4, m4⟩
    go_wp2_with fail
    refine (rep_pushS r4 (i := 0) (by omega) (by simp [total]) mine).mono ?_
    rintro e w5 ⟨nb, hnb, rfl, pb, r5, s5⟩
    have hMI : MI w w5 R M (w1.heap.size + 1) f.A pb nb (upd (fun _ => ⟨#[]⟩) nb mine) := by
      have z1 := b1.size
      have z2 := m2.size
      have z3 := m3.size
      have z4 := m4.size
      have hpb : ∀ k, Foot pb k → w3.heap.size ≤ k := fun k hk => (s5.foot k hk).elim (newP_foot w3 k) (fun e => by omega)
      have hB3 : Both w3 (newP w1) f R M (fun _ => []) (fun _ => 0) := ⟨r2.quiet m3, r3⟩
      have hm5 : Mv w3 w5 (fun k => Foot (newP w3) k) := (m4.mono (fun _ e => e.elim)).trans s5.mv (fun b e => .inl e)
      have hb1 : Mv w w1 (fun _ => False) := ⟨b1.os, b1.tape, b1.output, b1.size, fun k hk _ => b1.block k hk⟩
      refine ⟨(((hb1.trans m2 (fun _ e => e.elim)).trans m3 (fun _ e => e.elim)).trans hm5 (fun b e => .inr (by have := newP_foot w3 b e; omega))), ⟨newP w1, f, _, _, ⟨hB3.a.mv hm5 (fun k hk e => ?_), hB3.r.mv hm5 (fun k hk e => ?_)⟩, rfl, rfl, fun k hk => ⟨?_, fun e => ?_⟩, fun k hk => ?_⟩, r5⟩
      · have := hB3.a.lt k hk
        have := newP_foot w3 k e
        omega
      · have := hB3.r.lt hk
        have := newP_foot w3 k e
        omega
      · have := newP_foot w1 k hk
        omega
      · have := hB3.a.lt k hk
        have := hpb k e
        omega
      · have := ff3 k hk
        omega
    obtain ⟨A0, hA0⟩ : ∃ x, w1.heap.size + 1 = x := ⟨_, rfl⟩
    rw [hA0] at hMI
    obtain ⟨F0, hF0⟩ : ∃ x, f.A = x := ⟨_, rfl⟩
    rw [hF0] at hMI
    obtain ⟨PB, hPB⟩ : ∃ x, w3.heap.size + 1 = x := ⟨_, rfl⟩
    have hpA : pb.A = PB := by rw [← hPB]; exact s5.A
    clear s5 r5 r4 r3 r2 m4 m3 m2 ff3 hnb b1
    go_wp2_with fail
    go_loopw [15, 16] (fun vi _ wr => ∃ i : Nat, i ≤ ll ∧ vi = .int .i64 i ∧ MI w wr R M A0 F0 pb nb (upd (fun _ => ⟨#[]⟩) nb mine)) (fun vi _ _ => ll - (intOf vi).toNat)
    case atStart => exact ⟨0, by omega, rfl, hMI⟩
    case round =>
      obtain ⟨i, hi, rfl, hm⟩ := hrel
      by_cases hlt : i < ll
      · have hb : (i : Int) < (ll : Int) := by omega
        obtain ⟨b, off, rfl, hbl, hcell⟩ := hA (by omega)
        obtain ⟨hok4, k0, k1, k2, k3⟩ := hcell i hlt
        clear hcell
        have hbk := hm.mv.block b hbl (fun e => e)
        have hcc : ∀ j, wr.cell? ⟨b, j, none⟩ = w.cell? ⟨b, j, none⟩ := fun j => by unfold World.cell?; rw [hbk]
        rw [← hcc] at k0 k1 k2 k3
        have cD := hm.does (A i).k (A i).r (A i).n (A i).v
        go_wp2_with fail
        refine cD.mono ?_
        rintro e w6 ⟨rfl, h6⟩
        go_wp2_with fail
        go_round
        case rel => exact ⟨i + 1, by omega, by go_num, h6⟩
        case measure => simp [intOf]; omega
      · have hb : ¬ (i : Int) < (ll : Int) := by omega
        have cG := rep_get_yesS hm.b (i := 0) (n := nb) (by omega) (by rw [upd_same]; simp)
        have cL := rep_lenS hm.b (i := 0) (by omega)
        rw [hpA] at cG cL
        rw [upd_same] at cL cG
        have cK := hm.looks
        have hml := mine_list
        go_wp2_with fail
        refine cG.mono ?_
        rintro e w6 ⟨rfl, rfl⟩
        go_wp2_with fail
        refine cL.mono ?_
        rintro e w6 ⟨rfl, rfl⟩
        go_wp2_with fail
        refine cK.mono ?_
        rintro e w7 ⟨rfl, m7⟩
        go_wp2_with fail
        go_ret
        exact ⟨by simp [encS, mine], m7.below (Nat.le_refl _) (fun _ e => e.elim)⟩
  · have hb : newOk rows room = false := by simpa using hok
    go_enter Try.func3, Try.ntmps3
    go_wp2_with fail
    refine (works_any w).mono ?_
    rintro e w1 ⟨rfl, b1⟩
    go_wp2_with fail
    refine (newBadI rows room hb w1).mono ?_
    rintro e w2 ⟨rfl, rfl⟩
    go_wp2_with fail
    refine (rnew_bad rows room hb w2).mono ?_
    rintro e w3 ⟨rfl, rfl⟩
    go_wp2_with fail
    go_ret
    exact ⟨by simp, b1⟩

end Go.Proofs.Ythkdmjbdcnaklaa
