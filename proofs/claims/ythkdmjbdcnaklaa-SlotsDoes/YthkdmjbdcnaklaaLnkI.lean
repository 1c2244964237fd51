/-
  Walks of an arena's link and unlink.
-/
import Derived.Test.YthkdmjbdcnaklaaLookI
namespace Go.Proofs.Ythkdmjbdcnaklaa
open Go.RowKit

def linkS {X : Type} (s : St X) (n i : Nat) : St X :=
  { s with fi := if s.la i = -1 then upd s.fi i n else s.fi, nx := if s.la i = -1 then s.nx else upd s.nx (s.la i).toNat n, la := upd s.la i n, co := upd s.co i (s.co i + 1) }

set_option maxRecDepth 100000 in
theorem lnkI {p : Pl} {s : St Int} {w : World} (h : ArI w p s) (n i : Nat) (hn : n < s.nc) (hi : i < s.nr) (hrw : s.rw n = i) (hla : s.la i = -1 ∨ ∃ l : Nat, s.la i = l ∧ l < s.nc) (hco : 0 ≤ s.co i ∧ s.co i ≤ 65536) :
    Calls Try.prog 47 #[.pointer (some ⟨p.A, 0, none⟩), .int .i64 n] w fun e w' => e = .returned (.tuple #[]) ∧ ArI w' p (linkS s n i) ∧ Stp w p w' p := by
  obtain ⟨g, hg⟩ := h.at (by omega)
  have a0 := h.c0
  have a2 := h.c2
  rw [hg] at a2
  have b1 := h.rw hg hn
  rw [hrw] at b1
  go_enter Try.func47, Try.ntmps47
  go_wp2_with fail
  go_quiet (fail)
  obtain ⟨w0, hw0⟩ : ∃ W, w.drewN nq = W := ⟨_, rfl⟩
  have hs0 : Stp w p w0 p := by rw [← hw0]; exact (Stp.refl w p).drewN nq
  have h' : ArI w0 p s := by rw [← hw0]; exact h.drewN nq
  rw [hw0]
  clear h a0 a2 b1 hw0
  have a0 := h'.c0
  have a2 := h'.c2
  rw [hg] at a2
  have l1 := h'.la hi
  have fz := h'.rf
  have gz := h'.gf hg
  rcases hla with hla | ⟨l, hla, hl⟩
  · have k1 := h'.setFi tysI i (n : Int)
    have k2 := k1.setLa tysI i (n : Int)
    have k3 := k2.setCo tysI i (s.co i + 1)
    have hfin : ArI (((w0.setCell ⟨p.R, i * 3, none⟩ (.int .i64 n)).setCell ⟨p.R, i * 3 + 1, none⟩ (.int .i64 n)).setCell ⟨p.R, i * 3 + 2, none⟩ (.int .i64 (s.co i + 1))) p (linkS s n i) := by
      have e : linkS s n i = { s with fi := upd s.fi i n, la := upd s.la i n, co := upd s.co i (s.co i + 1) } := by unfold linkS; rw [if_pos hla, if_pos hla]
      rw [e]; exact k3
    have HF := hfin
    have f0 := h'.fi hi
    have c1 := k1.la hi
    have c2 := k2.co hi
    have f1 := k1.rf
    have f2 := k2.rf
    rw [hla] at l1
    clear hfin k3
    go_wp2_with fail
    go_end0
    exact ⟨rfl, HF, ((hs0.setCell (a := ⟨p.R, _, none⟩) (.inr (.inl rfl)) _).setCell (a := ⟨p.R, _, none⟩) (.inr (.inl rfl)) _).setCell (a := ⟨p.R, _, none⟩) (.inr (.inl rfl)) _⟩
  · have k1 := h'.setNx tysI hg l (n : Int)
    have k2 := k1.setLa tysI i (n : Int)
    have k3 := k2.setCo tysI i (s.co i + 1)
    have hne : ¬ s.la i = -1 := by omega
    have hfin : ArI (((w0.setCell ⟨g, l * 4 + 3, none⟩ (.int .i64 n)).setCell ⟨p.R, i * 3 + 1, none⟩ (.int .i64 n)).setCell ⟨p.R, i * 3 + 2, none⟩ (.int .i64 (s.co i + 1))) p (linkS s n i) := by
      have e : linkS s n i = { s with nx := upd s.nx l n, la := upd s.la i n, co := upd s.co i (s.co i + 1) } := by unfold linkS; rw [if_neg hne, if_neg hne, hla]; rfl
      rw [e]; exact k3
    have f0 := h'.nx hg hl
    have c1 := k1.la hi
    have c2 := k2.co hi
    have f1 := k1.rf
    have f2 := k2.rf
    rw [hla] at l1
    clear k3
    go_wp2_with fail
    go_region
    go_wp2_with fail
    go_end0
    exact ⟨rfl, hfin.drew, (((hs0.setCell (a := ⟨g, _, none⟩) (.inr (.inr (.inl (by rw [hg]; rfl)))) _).setCell (a := ⟨p.R, _, none⟩) (.inr (.inl rfl)) _).setCell (a := ⟨p.R, _, none⟩) (.inr (.inl rfl)) _).drew⟩

def unlinkS {X : Type} (s : St X) (n i : Nat) : St X :=
  { s with fi := if s.bk n = -1 then upd s.fi i (s.nx n) else s.fi, nx := if s.bk n = -1 then s.nx else upd s.nx (s.bk n).toNat (s.nx n), la := if s.nx n = -1 then upd s.la i (s.bk n) else s.la, bk := if s.nx n = -1 then s.bk else upd s.bk (s.nx n).toNat (s.bk n), co := upd s.co i (s.co i - 1) }

set_option maxRecDepth 100000 in
set_option maxHeartbeats 1000000 in
theorem unlnkI {p : Pl} {s : St Int} {w : World} (h : ArI w p s) (n i : Nat) (hn : n < s.nc) (hi : i < s.nr) (hrw : s.rw n = i)
    (hbk : s.bk n = -1 ∨ ∃ l : Nat, s.bk n = l ∧ l < s.nc ∧ l ≠ n) (hnx : s.nx n = -1 ∨ ∃ m : Nat, s.nx n = m ∧ m < s.nc ∧ m ≠ n) (hco : 0 ≤ s.co i ∧ s.co i ≤ 65536) :
    Calls Try.prog 48 #[.pointer (some ⟨p.A, 0, none⟩), .int .i64 n] w fun e w' => e = .returned (.tuple #[]) ∧ ArI w' p (unlinkS s n i) ∧ Stp w p w' p := by
  obtain ⟨g, hg⟩ := h.at (by omega)
  have a0 := h.c0
  have a2 := h.c2
  rw [hg] at a2
  have b1 := h.rw hg hn
  rw [hrw] at b1
  go_enter Try.func48, Try.ntmps48
  go_wp2_with fail
  go_quiet (fail)
  obtain ⟨w0, hw0⟩ : ∃ W, w.drewN nq = W := ⟨_, rfl⟩
  have hs0 : Stp w p w0 p := by rw [← hw0]; exact (Stp.refl w p).drewN nq
  have h' : ArI w0 p s := by rw [← hw0]; exact h.drewN nq
  rw [hw0]
  clear h a0 a2 b1 hw0
  have a0 := h'.c0
  have a2 := h'.c2
  rw [hg] at a2
  have n1 := h'.nx hg hn
  have k0 := h'.bk hg hn
  have hz := h'.rf
  have gz := h'.gf hg
  have b1 := h'.la hi
  have b2 := h'.co hi
  rcases hbk with hb | ⟨l, hb, hl, hln⟩
  · rcases hnx with hx | ⟨m, hx, hm, hmn⟩
    · rw [hx] at n1
      rw [hb] at k0
      have k1 := h'.setFi tysI i (-1)
      have f0 := h'.fi hi
      have g1 := k1.gf hg
      have r1 := k1.rf
      have p0 := k1.c0
      have p2 := k1.c2
      rw [hg] at p2
      have c1 : (w0.setCell ⟨p.R, i * 3, none⟩ (.int .i64 (-1))).cell? ⟨g, n * 4 + 3, none⟩ = some (.int .i64 (-1)) := by
        have e := k1.nx hg hn
        rwa [show ({ s with fi := upd s.fi i (-1) } : St Int).nx n = (-1) from hx] at e
      have c2 : (w0.setCell ⟨p.R, i * 3, none⟩ (.int .i64 (-1))).cell? ⟨g, n * 4 + 2, none⟩ = some (.int .i64 (-1)) := by
        have e := k1.bk hg hn
        rwa [show ({ s with fi := upd s.fi i (-1) } : St Int).bk n = (-1) from hb] at e
      have k2 := k1.setLa tysI i (-1)
      have f1 := k1.la hi
      have r2 := k2.rf
      have f2 := k2.co hi
      have k3 := k2.setCo tysI i (s.co i - 1)
      have HF : Hid (ArI (((w0.setCell ⟨p.R, i * 3, none⟩ (.int .i64 (-1))).setCell ⟨p.R, i * 3 + 1, none⟩ (.int .i64 (-1))).setCell ⟨p.R, i * 3 + 2, none⟩ (.int .i64 (s.co i - 1))) p (unlinkS s n i)) := by
        have e : unlinkS s n i = { s with fi := upd s.fi i (-1), la := upd s.la i (-1), co := upd s.co i (s.co i - 1) } := by unfold unlinkS; rw [hb, hx]; rfl
        show ArI _ p _
        rw [e]; exact k3
      have HS : Hid (Stp w p (((w0.setCell ⟨p.R, i * 3, none⟩ (.int .i64 (-1))).setCell ⟨p.R, i * 3 + 1, none⟩ (.int .i64 (-1))).setCell ⟨p.R, i * 3 + 2, none⟩ (.int .i64 (s.co i - 1))) p) := ((hs0.setCell (a := ⟨p.R, i * 3, none⟩) (.inr (.inl rfl)) _).setCell (a := ⟨p.R, i * 3 + 1, none⟩) (.inr (.inl rfl)) _).setCell (a := ⟨p.R, i * 3 + 2, none⟩) (.inr (.inl rfl)) _
      clear k3
      go_wp2_with fail
      go_end0
      exact ⟨rfl, HF.out, HS.out⟩
    · have hx2 : ¬ s.nx n = -1 := by omega
      rw [hx] at n1
      rw [hb] at k0
      have k1 := h'.setFi tysI i (m : Int)
      have f0 := h'.fi hi
      have g1 := k1.gf hg
      have r1 := k1.rf
      have p0 := k1.c0
      have p2 := k1.c2
      rw [hg] at p2
      have c1 : (w0.setCell ⟨p.R, i * 3, none⟩ (.int .i64 (m : Int))).cell? ⟨g, n * 4 + 3, none⟩ = some (.int .i64 (m : Int)) := by
        have e := k1.nx hg hn
        rwa [show ({ s with fi := upd s.fi i (m : Int) } : St Int).nx n = (m : Int) from hx] at e
      have c2 : (w0.setCell ⟨p.R, i * 3, none⟩ (.int .i64 (m : Int))).cell? ⟨g, n * 4 + 2, none⟩ = some (.int .i64 (-1)) := by
        have e := k1.bk hg hn
        rwa [show ({ s with fi := upd s.fi i (m : Int) } : St Int).bk n = (-1) from hb] at e
      have k2 := k1.setBk tysI hg m (-1)
      have f1 := k1.bk hg hm
      have f1b := h'.bk hg hm
      have r2 := k2.rf
      have f2 := k2.co hi
      have k3 := k2.setCo tysI i (s.co i - 1)
      have HF : Hid (ArI (((w0.setCell ⟨p.R, i * 3, none⟩ (.int .i64 (m : Int))).setCell ⟨g, m * 4 + 2, none⟩ (.int .i64 (-1))).setCell ⟨p.R, i * 3 + 2, none⟩ (.int .i64 (s.co i - 1))) p (unlinkS s n i)) := by
        have e : unlinkS s n i = { s with fi := upd s.fi i (m : Int), bk := upd s.bk m (-1), co := upd s.co i (s.co i - 1) } := by unfold unlinkS; rw [hb, hx]; rfl
        show ArI _ p _
        rw [e]; exact k3
      have HS : Hid (Stp w p (((w0.setCell ⟨p.R, i * 3, none⟩ (.int .i64 (m : Int))).setCell ⟨g, m * 4 + 2, none⟩ (.int .i64 (-1))).setCell ⟨p.R, i * 3 + 2, none⟩ (.int .i64 (s.co i - 1))) p) := ((hs0.setCell (a := ⟨p.R, i * 3, none⟩) (.inr (.inl rfl)) _).setCell (a := ⟨g, m * 4 + 2, none⟩) (.inr (.inr (.inl (by rw [hg]; rfl)))) _).setCell (a := ⟨p.R, i * 3 + 2, none⟩) (.inr (.inl rfl)) _
      clear k3
      go_wp2_with fail
      go_region
      go_wp2_with fail
      go_end0
      exact ⟨rfl, HF.out.drew, HS.out.drew⟩
  · have hb2 : ¬ s.bk n = -1 := by omega
    rcases hnx with hx | ⟨m, hx, hm, hmn⟩
    · rw [hx] at n1
      rw [hb] at k0
      have k1 := h'.setNx tysI hg l (-1)
      have f0 := h'.nx hg hl
      have g1 := k1.gf hg
      have r1 := k1.rf
      have p0 := k1.c0
      have p2 := k1.c2
      rw [hg] at p2
      have c1 : (w0.setCell ⟨g, l * 4 + 3, none⟩ (.int .i64 (-1))).cell? ⟨g, n * 4 + 3, none⟩ = some (.int .i64 (-1)) := by
        have e := k1.nx hg hn
        rwa [show ({ s with nx := upd s.nx l (-1) } : St Int).nx n = (-1) from (upd_other _ _ (Ne.symm hln)).trans hx] at e
      have c2 : (w0.setCell ⟨g, l * 4 + 3, none⟩ (.int .i64 (-1))).cell? ⟨g, n * 4 + 2, none⟩ = some (.int .i64 (l : Int)) := by
        have e := k1.bk hg hn
        rwa [show ({ s with nx := upd s.nx l (-1) } : St Int).bk n = (l : Int) from hb] at e
      have k2 := k1.setLa tysI i (l : Int)
      have f1 := k1.la hi
      have r2 := k2.rf
      have f2 := k2.co hi
      have k3 := k2.setCo tysI i (s.co i - 1)
      have HF : Hid (ArI (((w0.setCell ⟨g, l * 4 + 3, none⟩ (.int .i64 (-1))).setCell ⟨p.R, i * 3 + 1, none⟩ (.int .i64 (l : Int))).setCell ⟨p.R, i * 3 + 2, none⟩ (.int .i64 (s.co i - 1))) p (unlinkS s n i)) := by
        have e : unlinkS s n i = { s with nx := upd s.nx l (-1), la := upd s.la i (l : Int), co := upd s.co i (s.co i - 1) } := by unfold unlinkS; rw [hb, hx]; rfl
        show ArI _ p _
        rw [e]; exact k3
      have HS : Hid (Stp w p (((w0.setCell ⟨g, l * 4 + 3, none⟩ (.int .i64 (-1))).setCell ⟨p.R, i * 3 + 1, none⟩ (.int .i64 (l : Int))).setCell ⟨p.R, i * 3 + 2, none⟩ (.int .i64 (s.co i - 1))) p) := ((hs0.setCell (a := ⟨g, l * 4 + 3, none⟩) (.inr (.inr (.inl (by rw [hg]; rfl)))) _).setCell (a := ⟨p.R, i * 3 + 1, none⟩) (.inr (.inl rfl)) _).setCell (a := ⟨p.R, i * 3 + 2, none⟩) (.inr (.inl rfl)) _
      clear k3
      go_wp2_with fail
      go_region
      go_wp2_with fail
      go_end0
      exact ⟨rfl, HF.out.drew, HS.out.drew⟩
    · have hx2 : ¬ s.nx n = -1 := by omega
      rw [hx] at n1
      rw [hb] at k0
      have k1 := h'.setNx tysI hg l (m : Int)
      have f0 := h'.nx hg hl
      have g1 := k1.gf hg
      have r1 := k1.rf
      have p0 := k1.c0
      have p2 := k1.c2
      rw [hg] at p2
      have c1 : (w0.setCell ⟨g, l * 4 + 3, none⟩ (.int .i64 (m : Int))).cell? ⟨g, n * 4 + 3, none⟩ = some (.int .i64 (m : Int)) := by
        have e := k1.nx hg hn
        rwa [show ({ s with nx := upd s.nx l (m : Int) } : St Int).nx n = (m : Int) from (upd_other _ _ (Ne.symm hln)).trans hx] at e
      have c2 : (w0.setCell ⟨g, l * 4 + 3, none⟩ (.int .i64 (m : Int))).cell? ⟨g, n * 4 + 2, none⟩ = some (.int .i64 (l : Int)) := by
        have e := k1.bk hg hn
        rwa [show ({ s with nx := upd s.nx l (m : Int) } : St Int).bk n = (l : Int) from hb] at e
      have k2 := k1.setBk tysI hg m (l : Int)
      have f1 := k1.bk hg hm
      have f1b := h'.bk hg hm
      have r2 := k2.rf
      have f2 := k2.co hi
      have k3 := k2.setCo tysI i (s.co i - 1)
      have HF : Hid (ArI (((w0.setCell ⟨g, l * 4 + 3, none⟩ (.int .i64 (m : Int))).setCell ⟨g, m * 4 + 2, none⟩ (.int .i64 (l : Int))).setCell ⟨p.R, i * 3 + 2, none⟩ (.int .i64 (s.co i - 1))) p (unlinkS s n i)) := by
        have e : unlinkS s n i = { s with nx := upd s.nx l (m : Int), bk := upd s.bk m (l : Int), co := upd s.co i (s.co i - 1) } := by unfold unlinkS; rw [hb, hx]; rfl
        show ArI _ p _
        rw [e]; exact k3
      have HS : Hid (Stp w p (((w0.setCell ⟨g, l * 4 + 3, none⟩ (.int .i64 (m : Int))).setCell ⟨g, m * 4 + 2, none⟩ (.int .i64 (l : Int))).setCell ⟨p.R, i * 3 + 2, none⟩ (.int .i64 (s.co i - 1))) p) := ((hs0.setCell (a := ⟨g, l * 4 + 3, none⟩) (.inr (.inr (.inl (by rw [hg]; rfl)))) _).setCell (a := ⟨g, m * 4 + 2, none⟩) (.inr (.inr (.inl (by rw [hg]; rfl)))) _).setCell (a := ⟨p.R, i * 3 + 2, none⟩) (.inr (.inl rfl)) _
      clear k3
      go_wp2_with fail
      go_region
      go_wp2_with fail
      go_region
      go_wp2_with fail
      go_end0
      exact ⟨rfl, HF.out.drew.drew, HS.out.drew.drew⟩

end Go.Proofs.Ythkdmjbdcnaklaa
