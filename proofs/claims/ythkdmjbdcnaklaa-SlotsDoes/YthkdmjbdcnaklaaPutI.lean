/-
  Walks of an arena's give, Push and Take.
-/
import Derived.Test.YthkdmjbdcnaklaaLnkI
import Derived.Test.YthkdmjbdcnaklaaGrow
namespace Go.Proofs.Ythkdmjbdcnaklaa
open Go.RowKit

theorem Try.info76 : (Try.prog.info? 76).map (fun i => (i.zero, i.size, i.bytes)) = some (some (.agg #[Value.int .i64 0, .int .i64 0, .int .i64 0, .int .i64 0]), 4, 32) := by kernel_rfl

theorem new_fourI (w : World) : ∀ j u, (zcells encI (0 : Int))[j]? = some u → (w.alloc (.cells #[Value.int .i64 0, .int .i64 0, .int .i64 0, .int .i64 0] 76)).cell? ((⟨w.heap.size, 0, none⟩ : Addr).add j) = some u := by
  intro j u hu
  have hh : (w.alloc (.cells #[Value.int .i64 0, .int .i64 0, .int .i64 0, .int .i64 0] 76)).heap[w.heap.size]? = some (.cells #[Value.int .i64 0, .int .i64 0, .int .i64 0, .int .i64 0] 76 (0, 0)) := heap_alloc_new w _
  exact World.news_of_block hh j u hu

set_option maxRecDepth 100000 in
theorem giveNewI {p : Pl} {s : St Int} {w : World} (h : ArI w p s) (hf : s.nf = 0) (hn : s.nc ≤ 65536) :
    Calls Try.prog 46 #[.pointer (some ⟨p.A, 0, none⟩)] w fun e w' => e = .returned (.int .i64 s.nc) ∧ ∃ p', ArI w' p' (growS s (0 : Int)) ∧ Stp w p w' p' := by
  obtain ⟨i0, hi, hz0, hz1, hz2⟩ := info_parts Try.info76
  have a2 := h.c2
  have a3 := h.c3
  rw [hf] at a3
  have a2' : ∀ o : Obj, (w.alloc o).cell? ⟨p.A, 2, none⟩ = some (.slice p.ca s.nc p.cc) := fun o => (World.cell?_of_block (Below.heap_alloc w o p.A h.ltA)).trans a2
  have hr0 : Row (w.alloc (.cells #[Value.int .i64 0, .int .i64 0, .int .i64 0, .int .i64 0] 76)) 76 4 (.slice p.ca s.nc p.cc) s.nc (cellF encI s) := h.cells.alloc _
  have hnew := new_fourI w
  have hone : ∀ u ∈ zcells encI (0 : Int), u.oneCell' = true := by intro u hu; simp [zcells] at hu; rcases hu with rfl | rfl <;> rfl
  have hmx : s.nc + 1 ≤ maxLen := by simp only [maxLen]; omega
  have hsz : (w.alloc (.cells #[Value.int .i64 0, .int .i64 0, .int .i64 0, .int .i64 0] 76)).heap.size = w.heap.size + 1 := by show (w.heap.push _).size = _; simp
  have e1 : ((s.nc : Int) + 1) - 1 = s.nc := by omega
  go_enter Try.func46, Try.ntmps46
  go_wp2_with (at_builtin; refine wpList_append_lies _ rfl (.tmp 17) (.tmp 19) 56 rfl 0 76 i0 _ 4 32 Try.underlying56 hi hz0 hz1 hz2 rfl (by decide) (.slice p.ca s.nc p.cc) s.nc _ rfl hr0 ⟨w.heap.size, 0, none⟩ 1 1 (zcells encI (0 : Int)) rfl rfl hnew hone (by decide) hmx (by omega) (Nat.zero_le _) (w.heap.size + 1) hsz ?_; intro g' cc' w' hown hgr hlies _; obtain ⟨q1, q2, q3, q4⟩ := cells_after h tysI hown hgr hlies; have q5 := q3.c2; rw [show (growS s (0 : Int)).nc = s.nc + 1 from rfl] at q5)
  go_ret
  exact ⟨rfl, _, q3, q4⟩

/-- What the freed numbers are when the least one has been given. -/
def Old {X : Type} (s : St X) (s1 : St X) : Prop := ∃ m f', s.nf = m + 1 ∧ s1 = { s with nf := m, fr := f' } ∧ Hp m f' ∧ ∀ y, Mem m f' y ↔ Mem (m + 1) s.fr y ∧ y ≠ s.fr 0

set_option maxRecDepth 100000 in
theorem giveOldI {p : Pl} {s : St Int} {w : World} (h : ArI w p s) (m : Nat) (hf : s.nf = m + 1) (hm : m ≤ 65536) (hp : Hp s.nf s.fr) :
    Calls Try.prog 46 #[.pointer (some ⟨p.A, 0, none⟩)] w fun e w' => e = .returned (.int .i64 (s.fr 0)) ∧ ∃ p' s1, ArI w' p' s1 ∧ Old s s1 ∧ Stp w p w' p' := by
  have a3 := h.c3
  obtain ⟨g, hg⟩ := h.fat (by omega)
  have hfd := h.fd tysI
  rw [hf, hg] at hfd
  rw [hf] at hp
  rw [hf] at a3
  go_enter Try.func46, Try.ntmps46
  go_wp2_with fail
  refine (least_any hfd (by omega) hp).mono ?_
  rintro e w1 ⟨rfl, f', hfd1, hp1, hmem, hm1⟩
  go_wp2_with fail
  go_ret
  have hm1' : Mv w w1 (Ft p.A p.fa) := by rw [hg]; exact hm1
  exact ⟨rfl, _, _, h.of_fd tysI hm1' hfd1, ⟨m, f', hf, rfl, hp1, hmem⟩, stp_of_fd hm1' (fun k hk => .inl (by rw [hg]; exact hk))⟩

def putS {X : Type} (s : St X) (n i : Nat) (x : X) : St X := { s with th := upd s.th n x, rw := upd s.rw n i, bk := upd s.bk n (s.la i), nx := upd s.nx n (-1) }

theorem pushBadI {p : Pl} {s : St Int} {w : World} (h : ArI w p s) (row : Int) (hr : rowN s row = false) (x : Int) :
    Calls Try.prog 15 #[.pointer (some ⟨p.A, 0, none⟩), .int .i64 row, encI x] w fun e w' => e = .returned (.tuple #[.int .i64 0, .int .i64 1]) ∧ w' = w := by
  go_enter Try.func15, Try.ntmps15
  go_wp2_with fail
  refine (hasRowI h _).mono ?_
  rintro e w1 ⟨rfl, rfl⟩
  go_wp2_with fail
  go_ret2
  exact ⟨rfl, rfl⟩

theorem pushFullI {p : Pl} {s : St Int} {w : World} (h : ArI w p s) (row : Int) (hr : rowN s row = true) (x : Int) (hrm : 0 ≤ s.room ∧ s.room ≤ 65536) (hc : s.nc ≤ 65536) (hf : s.nf ≤ 65536) (h0 : s.room - s.nc + s.nf = 0) :
    Calls Try.prog 15 #[.pointer (some ⟨p.A, 0, none⟩), .int .i64 row, encI x] w fun e w' => e = .returned (.tuple #[.int .i64 0, .int .i64 40]) ∧ Mv w w' (fun _ => False) := by
  go_enter Try.func15, Try.ntmps15
  go_wp2_with fail
  refine (hasRowI h _).mono ?_
  rintro e w1 ⟨rfl, rfl⟩
  go_wp2_with fail
  refine (freeI h hrm hc hf).mono ?_
  rintro e w2 ⟨rfl, hm⟩
  go_wp2_with fail
  go_ret2
  exact ⟨rfl, hm⟩

set_option maxRecDepth 100000 in
set_option maxHeartbeats 1000000 in
theorem pushGoI {p : Pl} {s : St Int} {w : World} (h : ArI w p s) (i n : Nat) (hi : i < s.nr) (x : Int) (hrm : 0 ≤ s.room ∧ s.room ≤ 65536) (hc : s.nc ≤ 65536) (hf : s.nf ≤ 65536) (h0 : s.room - s.nc + s.nf ≠ 0)
    (P : St Int → Prop) (hgive : ∀ w1, ArI w1 p s → Calls Try.prog 46 #[.pointer (some ⟨p.A, 0, none⟩)] w1 fun e w' => e = .returned (.int .i64 n) ∧ ∃ p' s1, ArI w' p' s1 ∧ P s1 ∧ Stp w1 p w' p')
    (hP : ∀ s1, P s1 → n < s1.nc ∧ i < s1.nr ∧ (s1.la i = -1 ∨ ∃ l : Nat, s1.la i = l ∧ l < s1.nc) ∧ 0 ≤ s1.co i ∧ s1.co i ≤ 65536) :
    Calls Try.prog 15 #[.pointer (some ⟨p.A, 0, none⟩), .int .i64 i, encI x] w fun e w' => e = .returned (.tuple #[.int .i64 n, .int .i64 0]) ∧ ∃ p' s1, P s1 ∧ ArI w' p' (linkS (putS s1 n i x) n i) ∧ Stp w p w' p' := by
  have hr : rowN s i = true := (rowN_iff s i).2 ⟨by omega, by omega⟩
  have h0' : ((s.room - s.nc + s.nf) == 0) = false := beq_false_of_ne h0
  go_enter Try.func15, Try.ntmps15
  go_wp2_with fail
  refine (hasRowI h _).mono ?_
  rintro e w1 ⟨rfl, rfl⟩
  go_wp2_with fail
  refine (freeI h hrm hc hf).mono ?_
  rintro e w2 ⟨rfl, hm2⟩
  go_wp2_with fail
  refine (hgive w2 (h.quiet hm2)).mono ?_
  rintro e w3 ⟨rfl, p3, s3, h3, hP3, hst3⟩
  have hst : Stp w1 p w3 p3 := (Stp.quiet p hm2).trans hst3
  have HPP : Hid (P s3) := hP3
  obtain ⟨b1, b2, b3, b4, b5⟩ := hP s3 hP3
  have hA : p.A = p3.A := hst.A.symm
  rw [hA]
  obtain ⟨g, hg⟩ := h3.at (by omega)
  have a0 := h3.c0
  have a2 := h3.c2
  rw [hg] at a2
  have l1 := h3.la b2
  have k1 := h3.setTh tysI hg n x
  have k2 := k1.setRw tysI hg n (i : Int)
  have k3 := k2.setBk tysI hg n (s3.la i)
  have k4 := k3.setNx tysI hg n (-1)
  have t0 := h3.th hg b1
  have t1 := k1.rw hg b1
  have t2 := k2.bk hg b1
  have t3 := k3.nx hg b1
  have t1b := h3.rw hg b1
  have t2b := h3.bk hg b1
  have t3b := h3.nx hg b1
  have z0 := h3.gf hg
  have z1 := k1.gf hg
  have z2 := k2.gf hg
  have z3 := k3.gf hg
  have HK : Hid (ArI ((((w3.setCell ⟨g, n * 4, none⟩ (encI x)).setCell ⟨g, n * 4 + 1, none⟩ (.int .i64 i)).setCell ⟨g, n * 4 + 2, none⟩ (.int .i64 (s3.la i))).setCell ⟨g, n * 4 + 3, none⟩ (.int .i64 (-1))) p3 (putS s3 n i x)) := k4
  have hgf : Foot p3 g := .inr (.inr (.inl (by rw [hg]; rfl)))
  have HS : Hid (Stp w1 p ((((w3.setCell ⟨g, n * 4, none⟩ (encI x)).setCell ⟨g, n * 4 + 1, none⟩ (.int .i64 i)).setCell ⟨g, n * 4 + 2, none⟩ (.int .i64 (s3.la i))).setCell ⟨g, n * 4 + 3, none⟩ (.int .i64 (-1))) p3) :=
    (((hst.setCell (a := ⟨g, _, none⟩) hgf _).setCell (a := ⟨g, _, none⟩) hgf _).setCell (a := ⟨g, _, none⟩) hgf _).setCell (a := ⟨g, _, none⟩) hgf _
  clear k4
  go_wp2_with fail
  go_region
  go_wp2_with fail
  refine (lnkI HK.out.drew n i b1 b2 (upd_same _ _ _) b3 ⟨b4, b5⟩).mono ?_
  rintro e w5 ⟨rfl, h5, hs5⟩
  go_wp2_with fail
  go_ret2
  exact ⟨rfl, p3, s3, HPP.out, h5, HS.out.drew.trans hs5⟩

def dropS {X : Type} (s : St X) (n : Nat) (x0 : X) : St X := { s with th := upd s.th n x0, rw := upd s.rw n (-1), bk := upd s.bk n 0, nx := upd s.nx n 0 }

theorem takeNoI {p : Pl} {s : St Int} {w : World} (h : ArI w p s) (n : Int) (hn : hasN s n = false) :
    Calls Try.prog 16 #[.pointer (some ⟨p.A, 0, none⟩), .int .i64 n] w fun e w' => e = .returned (.tuple #[encI (0 : Int), .bool false]) ∧ w' = w := by
  have hv : getI s n = (0 : Int) := if_neg (by rw [hn]; simp)
  have hc := getI_any h n
  rw [hv, hn] at hc
  go_enter Try.func16, Try.ntmps16
  go_wp2_with fail
  refine hc.mono ?_
  rintro e w1 ⟨rfl, rfl⟩
  go_wp2_with fail
  go_ret2
  exact ⟨rfl, rfl⟩

set_option maxRecDepth 100000 in
set_option maxHeartbeats 1000000 in
theorem takeGoI {p : Pl} {s : St Int} {w : World} (h : ArI w p s) (n i : Nat) (hn : n < s.nc) (hi : i < s.nr) (hrw : s.rw n = i)
    (hbk : s.bk n = -1 ∨ ∃ l : Nat, s.bk n = l ∧ l < s.nc ∧ l ≠ n) (hnx : s.nx n = -1 ∨ ∃ m : Nat, s.nx n = m ∧ m < s.nc ∧ m ≠ n) (hco : 0 ≤ s.co i ∧ s.co i ≤ 65536)
    (hf : s.nf ≤ 65536) (hp : Hp s.nf s.fr) (hx : ¬ Mem s.nf s.fr n) :
    Calls Try.prog 16 #[.pointer (some ⟨p.A, 0, none⟩), .int .i64 n] w fun e w' => e = .returned (.tuple #[encI (s.th n), .bool true]) ∧
      ∃ p' f', ArI w' p' { dropS (unlinkS s n i) n (0 : Int) with nf := s.nf + 1, fr := f' } ∧ Hp (s.nf + 1) f' ∧ (∀ y, Mem (s.nf + 1) f' y ↔ Mem s.nf s.fr y ∨ y = n) ∧ Stp w p w' p' := by
  have hh : hasN s n = true := (hasN_iff s n).2 ⟨by omega, by omega, by rw [Int.toNat_natCast, hrw]; omega⟩
  have hv : getI s n = s.th n := if_pos hh
  have hc := getI_any h n
  rw [hv, hh] at hc
  go_enter Try.func16, Try.ntmps16
  go_wp2_with fail
  refine hc.mono ?_
  rintro e w1 ⟨rfl, rfl⟩
  go_wp2_with fail
  refine (unlnkI h n i hn hi hrw hbk hnx hco).mono ?_
  rintro e w2 ⟨rfl, h2, hst2⟩
  obtain ⟨g, hg⟩ := h2.at (show 0 < (unlinkS s n i).nc from Nat.lt_of_le_of_lt (Nat.zero_le _) hn)
  have hn2 : n < (unlinkS s n i).nc := hn
  have a2 := h2.c2
  rw [hg, show (unlinkS s n i).nc = s.nc from rfl] at a2
  have k1 := h2.setTh tysI hg n (0 : Int)
  have k2 := k1.setRw tysI hg n (-1)
  have k3 := k2.setBk tysI hg n 0
  have k4 := k3.setNx tysI hg n 0
  have t0 := h2.th hg hn2
  have t1 := k1.rw hg hn2
  have t2 := k2.bk hg hn2
  have t3 := k3.nx hg hn2
  have t1b := h2.rw hg hn2
  have t2b := h2.bk hg hn2
  have t3b := h2.nx hg hn2
  have z0 := h2.gf hg
  have z1 := k1.gf hg
  have z2 := k2.gf hg
  have z3 := k3.gf hg
  have HK : Hid (ArI ((((w2.setCell ⟨g, n * 4, none⟩ (encI (0 : Int))).setCell ⟨g, n * 4 + 1, none⟩ (.int .i64 (-1))).setCell ⟨g, n * 4 + 2, none⟩ (.int .i64 0)).setCell ⟨g, n * 4 + 3, none⟩ (.int .i64 0)) p (dropS (unlinkS s n i) n (0 : Int))) := k4
  have hgf : Foot p g := .inr (.inr (.inl (by rw [hg]; rfl)))
  have HS : Hid (Stp w1 p ((((w2.setCell ⟨g, n * 4, none⟩ (encI (0 : Int))).setCell ⟨g, n * 4 + 1, none⟩ (.int .i64 (-1))).setCell ⟨g, n * 4 + 2, none⟩ (.int .i64 0)).setCell ⟨g, n * 4 + 3, none⟩ (.int .i64 0)) p) :=
    (((hst2.setCell (a := ⟨g, _, none⟩) hgf _).setCell (a := ⟨g, _, none⟩) hgf _).setCell (a := ⟨g, _, none⟩) hgf _).setCell (a := ⟨g, _, none⟩) hgf _
  clear k4
  go_wp2_with fail
  refine (add_any (HK.out.fd tysI) n (by show s.nf ≤ _; omega) hp hx).mono ?_
  rintro e w5 ⟨rfl, g', fc', f', hfd5, hp5, hmem5, hm5, hg5⟩
  go_wp2_with fail
  go_ret2
  refine ⟨rfl, _, f', HK.out.of_fd tysI hm5 hfd5, hp5, hmem5, HS.out.trans (stp_of_fd hm5 (fun k hk => ?_))⟩
  have : g' = k := by simpa using hk
  subst this
  exact hg5

end Go.Proofs.Ythkdmjbdcnaklaa
