import Derived.Test.YtdanedibjccldaaM1
import Derived.Deep.AppendLies
import Derived.Deep.RegionLaw
/-
  The document's Plan, Drop, Tick.
-/
namespace Go.Proofs.Ytdanedibjccldaa
open Go.RowKit
set_option linter.unusedVariables false

/-- It has moved on: only its own blocks have changed, or new ones. -/
structure RS (w : World) (r : Rp) (n : Nat) (w' : World) (r' : Rp) : Prop where
  mv : Mv w w' (RFt r n)
  ft : ∀ k, RFt r' n k → RFt r n k ∨ w.heap.size ≤ k
  R : r'.R = r.R
theorem RS.quiet {w w' : World} (r : Rp) (n : Nat) (h : Qt w w') : RS w r n w' r := ⟨h.mono (fun _ e => e.elim), fun _ h => .inl h, rfl⟩

theorem RS.pre {w v w' : World} {r r' : Rp} {n : Nat} (q : Qt w v) (h : RS v r n w' r') : RS w r n w' r' :=
  ⟨(q.mono (F' := RFt r n) (fun _ e => e.elim)).trans h.mv (fun b e => .inl e), fun k hk => by
    rcases h.ft k hk with e | e
    · exact .inl e
    · exact .inr (Nat.le_trans q.size e), h.R⟩
theorem RfAt.nePl {w : World} {r : Rp} {c : Cf} {m : Ms} {M : Nat} (h : RfAt w r c m M) : r.R ≠ r.pb ∧ r.R ≠ r.tb ∧ r.pb ≠ r.tb := by
  obtain ⟨c1, z1, e1⟩ := h.pl.kind r.pb rfl
  obtain ⟨c2, z2, e2⟩ := h.ta.kind r.tb rfl
  have e0 := h.blk
  refine ⟨fun e => ?_, fun e => ?_, fun e => ?_⟩
  · rw [e, e1] at e0; simp at e0
  · rw [e, e2] at e0; simp at e0
  · rw [e, e2] at e1; simp at e1
theorem RfAt.neLs {w : World} {r : Rp} {c : Cf} {m : Ms} {M : Nat} (h : RfAt w r c m M) {j b : Nat} (hj : j ≤ c.r0.toNat) (hb : (r.sl j).ownBlock = some b) : b ≠ r.R ∧ b ≠ r.pb ∧ b ≠ r.tb := by
  obtain ⟨c1, z1, e1⟩ := h.pl.kind r.pb rfl
  obtain ⟨c2, z2, e2⟩ := h.ta.kind r.tb rfl
  obtain ⟨c3, z3, e3⟩ := (h.ls j hj).kind b hb
  have e0 := h.blk
  refine ⟨fun e => ?_, fun e => ?_, fun e => ?_⟩
  · rw [e, e0] at e3; simp at e3
  · rw [e, e1] at e3; simp at e3
  · rw [e, e2] at e3; simp at e3
theorem RfAt.setp {w : World} {r : Rp} {c : Cf} {m : Ms} {M : Nat} (h : RfAt w r c m M) {i : Nat} (hi : i < c.r0.toNat) (x : Int) :
    RfAt (w.setCell ⟨r.pb, i + 1, none⟩ (.int .i64 x)) r c { m with p := upd m.p i x } M ∧ RS w r c.r0.toNat (w.setCell ⟨r.pb, i + 1, none⟩ (.int .i64 x)) r := by
  have ne := h.nePl
  have k : Mv w (w.setCell ⟨r.pb, i + 1, none⟩ (.int .i64 x)) (fun b => b = r.pb) := (Mv.refl w (fun b => b = r.pb)).setCell (.inl rfl) _
  refine ⟨⟨(k.block _ (lt_of h.blk) ne.1).trans h.blk, ?_, k.row h.ta (fun b hb e => ?_), fun j hj => k.row (h.ls j hj) (fun b hb => (h.neLs hj hb).2.1), h.ap, h.sm, h.le, h.ec, h.es, h.ea, h.el, h.rb, h.rl, h.ln⟩, ⟨k.mono (fun b e => .inr (.inl e)), fun _ h => .inl h, rfl⟩⟩
  · refine (h.pl.set (i + 1) (.int .i64 x)).congr (fun j _ => ?_)
    by_cases e : j = i + 1
    · subst e
      simp only [if_true]
      rw [if_neg (by omega), show i + 1 - 1 = i by omega, upd_same]
    · rw [if_neg e]
      by_cases e0 : j = 0
      · rw [if_pos e0, if_pos e0]
      · rw [if_neg e0, if_neg e0]
        exact congrArg _ (upd_ne m.p x (show j - 1 ≠ i by omega)).symm
  · simp [Value.ownBlock] at hb
    exact ne.2.2 (by rw [← e, hb])

theorem rplan_no {w : World} {r : Rp} {c : Cf} {m : Ms} {M : Nat} (h : RfAt w r c m M) (x : Int) (hB : isB m x = false) :
    Calls Try.prog 12 #[.pointer (some ⟨r.R, 0, none⟩), .int .i64 x] w fun e w' => e = .returned (.int .i64 1) ∧ Qt w w' := by
  have cH := is_any h x
  rw [hB] at cH
  go_enter Try.func12, Try.ntmps12
  go_wp2_with fail
  refine cH.mono ?_
  rintro e w' ⟨rfl, rfl⟩
  go_wp2_with fail
  go_ret
  exact ⟨rfl, Mv.refl _ _⟩
theorem rdrop_no {w : World} {r : Rp} {c : Cf} {m : Ms} {M : Nat} (h : RfAt w r c m M) (x : Int) (hB : isB m x = false) :
    Calls Try.prog 14 #[.pointer (some ⟨r.R, 0, none⟩), .int .i64 x] w fun e w' => e = .returned (.int .i64 1) ∧ Qt w w' := by
  have cH := is_any h x
  rw [hB] at cH
  go_enter Try.func14, Try.ntmps14
  go_wp2_with fail
  refine cH.mono ?_
  rintro e w' ⟨rfl, rfl⟩
  go_wp2_with fail
  go_ret
  exact ⟨rfl, Mv.refl _ _⟩
theorem rplan_full {w : World} {r : Rp} {c : Cf} {m : Ms} {M : Nat} (h : RfAt w r c m M) (ok : m.Ok) (i : Nat) (hi : i < 8) (hB : isB m ((i : Int) + 1) = true) (hf : m.s ≤ m.p i) :
    Calls Try.prog 12 #[.pointer (some ⟨r.R, 0, none⟩), .int .i64 ((i : Int) + 1)] w fun e w' => e = .returned (.int .i64 222) ∧ Qt w w' := by
  have hi' : i < c.r0.toNat := by have := (isB_iff.1 hB).2; rw [h.ec] at this; omega
  have cH := is_any h ((i : Int) + 1)
  rw [hB] at cH
  have c16 : w.cell? ⟨r.R, 16, none⟩ = some (.slice (some ⟨r.pb, 0, none⟩) (c.r0.toNat + 1) r.pc) := h.cell 16
  have cp : w.cell? ⟨r.pb, i + 1, none⟩ = some (.int .i64 (m.p i)) := h.pl.cell (j := i + 1) (by omega)
  have fp := h.pl.frozen (i + 1)
  have c11 : w.cell? ⟨r.R, 11, none⟩ = some (.int .i64 m.s) := by rw [h.es]; exact h.cell 11
  have hnn : i + 1 < c.r0.toNat + 1 := by omega
  have p1 := ok.p1 i
  have p2 := ok.p2 i
  have s2 := ok.s2
  generalize c.r0.toNat + 1 = nn at *
  have hb1 : (i : Int) + 1 < (nn : Int) := by omega
  go_enter Try.func12, Try.ntmps12
  go_wp2_with fail
  refine cH.mono ?_
  rintro e w' ⟨rfl, rfl⟩
  go_wp2_with fail
  go_quiet (fail)
  go_wp2_with fail
  go_ret
  exact ⟨rfl, mv_drewN _ _ _⟩
theorem rplan_ok {w : World} {r : Rp} {c : Cf} {m : Ms} {M : Nat} (h : RfAt w r c m M) (ok : m.Ok) (i : Nat) (hi : i < 8) (hB : isB m ((i : Int) + 1) = true) (hf : ¬ m.s ≤ m.p i) :
    Calls Try.prog 12 #[.pointer (some ⟨r.R, 0, none⟩), .int .i64 ((i : Int) + 1)] w fun e w' => e = .returned (.int .i64 0) ∧ RS w r c.r0.toNat w' r ∧ RfAt w' r c { m with p := upd m.p i (m.p i + 1) } M := by
  have hi' : i < c.r0.toNat := by have := (isB_iff.1 hB).2; rw [h.ec] at this; omega
  have cH := is_any h ((i : Int) + 1)
  rw [hB] at cH
  have c16 : w.cell? ⟨r.R, 16, none⟩ = some (.slice (some ⟨r.pb, 0, none⟩) (c.r0.toNat + 1) r.pc) := h.cell 16
  have cp : w.cell? ⟨r.pb, i + 1, none⟩ = some (.int .i64 (m.p i)) := h.pl.cell (j := i + 1) (by omega)
  have fp := h.pl.frozen (i + 1)
  have c11 : w.cell? ⟨r.R, 11, none⟩ = some (.int .i64 m.s) := by rw [h.es]; exact h.cell 11
  have hnn : i + 1 < c.r0.toNat + 1 := by omega
  have p1 := ok.p1 i
  have p2 := ok.p2 i
  have s2 := ok.s2
  have hE : ∀ v, Qt w v → _ := fun v q => (h.qt q).setp hi' (m.p i + 1)
  have hb1 : (i : Int) + 1 < ((c.r0.toNat + 1 : Nat) : Int) := by omega
  generalize c.r0.toNat + 1 = nn at c16 hb1
  go_enter Try.func12, Try.ntmps12
  go_wp2_with fail
  refine cH.mono ?_
  rintro e w' ⟨rfl, rfl⟩
  go_wp2_with fail
  go_quiet (fail)
  generalize hWW : w'.drewN _ = W2
  have q2 : ∀ a, W2.cell? a = w'.cell? a := by intro a; rw [← hWW]; rfl
  have q3 : ∀ a, W2.frozen? a = w'.frozen? a := by intro a; rw [← hWW]; rfl
  have qq : Qt w' W2 := by rw [← hWW]; exact mv_drewN _ _ _
  rw [← q2] at c16 cp
  rw [← q3] at fp
  clear hWW q2 q3 c11
  go_wp2_with fail
  go_ret
  exact ⟨rfl, (hE _ qq).2.pre qq, (hE _ qq).1⟩
theorem rdrop_full {w : World} {r : Rp} {c : Cf} {m : Ms} {M : Nat} (h : RfAt w r c m M) (ok : m.Ok) (i : Nat) (hi : i < 8) (hB : isB m ((i : Int) + 1) = true) (hf : m.p i = 0) :
    Calls Try.prog 14 #[.pointer (some ⟨r.R, 0, none⟩), .int .i64 ((i : Int) + 1)] w fun e w' => e = .returned (.int .i64 222) ∧ Qt w w' := by
  have hi' : i < c.r0.toNat := by have := (isB_iff.1 hB).2; rw [h.ec] at this; omega
  have cH := is_any h ((i : Int) + 1)
  rw [hB] at cH
  have c16 : w.cell? ⟨r.R, 16, none⟩ = some (.slice (some ⟨r.pb, 0, none⟩) (c.r0.toNat + 1) r.pc) := h.cell 16
  have cp : w.cell? ⟨r.pb, i + 1, none⟩ = some (.int .i64 (m.p i)) := h.pl.cell (j := i + 1) (by omega)
  have fp := h.pl.frozen (i + 1)
  have c11 : w.cell? ⟨r.R, 11, none⟩ = some (.int .i64 m.s) := by rw [h.es]; exact h.cell 11
  have hnn : i + 1 < c.r0.toNat + 1 := by omega
  have p1 := ok.p1 i
  have p2 := ok.p2 i
  have s2 := ok.s2
  generalize c.r0.toNat + 1 = nn at *
  have hb1 : (i : Int) + 1 < (nn : Int) := by omega
  go_enter Try.func14, Try.ntmps14
  go_wp2_with fail
  refine cH.mono ?_
  rintro e w' ⟨rfl, rfl⟩
  go_wp2_with fail
  go_ret
  exact ⟨rfl, Mv.refl _ _⟩
theorem rdrop_ok {w : World} {r : Rp} {c : Cf} {m : Ms} {M : Nat} (h : RfAt w r c m M) (ok : m.Ok) (i : Nat) (hi : i < 8) (hB : isB m ((i : Int) + 1) = true) (hf : ¬ m.p i = 0) :
    Calls Try.prog 14 #[.pointer (some ⟨r.R, 0, none⟩), .int .i64 ((i : Int) + 1)] w fun e w' => e = .returned (.int .i64 0) ∧ RS w r c.r0.toNat w' r ∧ RfAt w' r c { m with p := upd m.p i (m.p i + -1) } M := by
  have hi' : i < c.r0.toNat := by have := (isB_iff.1 hB).2; rw [h.ec] at this; omega
  have cH := is_any h ((i : Int) + 1)
  rw [hB] at cH
  have c16 : w.cell? ⟨r.R, 16, none⟩ = some (.slice (some ⟨r.pb, 0, none⟩) (c.r0.toNat + 1) r.pc) := h.cell 16
  have cp : w.cell? ⟨r.pb, i + 1, none⟩ = some (.int .i64 (m.p i)) := h.pl.cell (j := i + 1) (by omega)
  have fp := h.pl.frozen (i + 1)
  have c11 : w.cell? ⟨r.R, 11, none⟩ = some (.int .i64 m.s) := by rw [h.es]; exact h.cell 11
  have hnn : i + 1 < c.r0.toNat + 1 := by omega
  have p1 := ok.p1 i
  have p2 := ok.p2 i
  have s2 := ok.s2
  have hE : ∀ v, Qt w v → _ := fun v q => (h.qt q).setp hi' (m.p i + -1)
  have hb1 : (i : Int) + 1 < ((c.r0.toNat + 1 : Nat) : Int) := by omega
  generalize c.r0.toNat + 1 = nn at c16 hb1
  go_enter Try.func14, Try.ntmps14
  go_wp2_with fail
  refine cH.mono ?_
  rintro e w' ⟨rfl, rfl⟩
  go_wp2_with fail
  have qq : Qt w' w' := Mv.refl _ _
  go_ret
  exact ⟨rfl, (hE _ qq).2.pre qq, (hE _ qq).1⟩
theorem rplan_any {w : World} {r : Rp} {c : Cf} {m : Ms} {M : Nat} (h : RfAt w r c m M) (ok : m.Ok) (x : Int) :
    Calls Try.prog 12 #[.pointer (some ⟨r.R, 0, none⟩), .int .i64 x] w fun e w' => e = .returned (.int .i64 (plnE m x 1)) ∧ RS w r c.r0.toNat w' r ∧ RfAt w' r c (plnM m x 1) M := by
  have hq : ∀ {w' : World} {e : Int}, plnE m x 1 = e → e ≠ 0 → Qt w w' → RS w r c.r0.toNat w' r ∧ RfAt w' r c (plnM m x 1) M := by
    intro w' e he hne hv
    refine ⟨RS.quiet r _ hv, ?_⟩
    unfold plnM
    rw [if_neg (by rw [he]; exact hne)]
    exact h.qt hv
  by_cases hB : isB m x = true
  · obtain ⟨i, hi, rfl, hc⟩ := client ok hB
    have p1 := ok.p1 i
    have p2 := ok.p2 i
    by_cases hf : m.s ≤ m.p i
    · have hE : plnE m ((i : Int) + 1) 1 = 222 := by
        unfold plnE
        rw [if_neg (by rw [hB]; decide), toNat1, if_pos (by omega)]
      exact (rplan_full h ok i hi hB hf).mono fun e w' ⟨he, hv⟩ => ⟨by rw [he, hE], hq hE (by decide) hv⟩
    · have hE : plnE m ((i : Int) + 1) 1 = 0 := by
        unfold plnE
        rw [if_neg (by rw [hB]; decide), toNat1, if_neg (by omega)]
      refine (rplan_ok h ok i hi hB hf).mono fun e w' ⟨he, hv, hm⟩ => ⟨by rw [he, hE], hv, ?_⟩
      unfold plnM
      rw [if_pos hE, toNat1]
      exact hm
  · have hB' : isB m x = false := by simpa using hB
    have hE : plnE m x 1 = 1 := by unfold plnE; rw [if_pos hB']
    exact (rplan_no h x hB').mono fun e w' ⟨he, hv⟩ => ⟨by rw [he, hE], hq hE (by decide) hv⟩
theorem rdrop_any {w : World} {r : Rp} {c : Cf} {m : Ms} {M : Nat} (h : RfAt w r c m M) (ok : m.Ok) (x : Int) :
    Calls Try.prog 14 #[.pointer (some ⟨r.R, 0, none⟩), .int .i64 x] w fun e w' => e = .returned (.int .i64 (plnE m x (-1))) ∧ RS w r c.r0.toNat w' r ∧ RfAt w' r c (plnM m x (-1)) M := by
  have hq : ∀ {w' : World} {e : Int}, plnE m x (-1) = e → e ≠ 0 → Qt w w' → RS w r c.r0.toNat w' r ∧ RfAt w' r c (plnM m x (-1)) M := by
    intro w' e he hne hv
    refine ⟨RS.quiet r _ hv, ?_⟩
    unfold plnM
    rw [if_neg (by rw [he]; exact hne)]
    exact h.qt hv
  by_cases hB : isB m x = true
  · obtain ⟨i, hi, rfl, hc⟩ := client ok hB
    have p1 := ok.p1 i
    have p2 := ok.p2 i
    by_cases hf : m.p i = 0
    · have hE : plnE m ((i : Int) + 1) (-1) = 222 := by
        unfold plnE
        rw [if_neg (by rw [hB]; decide), toNat1, if_pos (by omega)]
      exact (rdrop_full h ok i hi hB hf).mono fun e w' ⟨he, hv⟩ => ⟨by rw [he, hE], hq hE (by decide) hv⟩
    · have hE : plnE m ((i : Int) + 1) (-1) = 0 := by
        unfold plnE
        rw [if_neg (by rw [hB]; decide), toNat1, if_neg (by omega)]
      refine (rdrop_ok h ok i hi hB hf).mono fun e w' ⟨he, hv, hm⟩ => ⟨by rw [he, hE], hv, ?_⟩
      unfold plnM
      rw [if_pos hE, toNat1]
      exact hm
  · have hB' : isB m x = false := by simpa using hB
    have hE : plnE m x (-1) = 1 := by unfold plnE; rw [if_pos hB']
    exact (rdrop_no h x hB').mono fun e w' ⟨he, hv⟩ => ⟨by rw [he, hE], hq hE (by decide) hv⟩
theorem sumQ_zero {l q : Int} : ∀ (L : List Tak), (∀ x ∈ L, x.at_ / l ≠ q) → sumQ l q L = 0
  | [], _ => rfl
  | x :: L, h => by
    simp only [sumQ]
    rw [if_neg (h x (by simp)), sumQ_zero L (fun y hy => h y (by simp [hy]))]
    rfl
theorem rtick_any {w : World} {r : Rp} {c : Cf} {m : Ms} {M : Nat} (h : RfAt w r c m M) (ok : m.Ok) (t : Int) :
    Calls Try.prog 16 #[.pointer (some ⟨r.R, 0, none⟩), .int .i64 t] w fun e w' => e = .returned (.int .i64 (tckE m t)) ∧ RS w r c.r0.toNat w' r ∧ RfAt w' r c (tckM m t) M := by
  by_cases hf : t < m.t ∨ 1000000000000000 < t
  · have hE : tckE m t = 223 := by unfold tckE; rw [if_pos hf]
    unfold tckM
    rw [hE, if_neg (by decide)]
    exact (rtick_no h t hf).mono fun e w' ⟨h1, h2⟩ => ⟨h1, RS.quiet r _ h2, h.qt h2⟩
  · have hE : tckE m t = 0 := by unfold tckE; rw [if_neg hf]
    unfold tckM
    rw [hE, if_pos rfl]
    refine (rtick_ok h t (by omega) (by omega)).mono fun e w' ⟨h1, h2, h3⟩ => ⟨h1, ⟨h2.mono (fun _ e => .inl e), fun _ h => .inl h, rfl⟩, ?_⟩
    have ne := h.nePl
    refine ⟨h3, h2.row h.pl (fun b hb e => ?_), h2.row h.ta (fun b hb e => ?_), fun j hj => h2.row (h.ls j hj) (fun b hb => (h.neLs hj hb).1), h.ap, fun j hj => ?_, fun j x hj hx => ?_, h.ec, h.es, h.ea, h.el, h.rb, h.rl, h.ln⟩
    · simp [Value.ownBlock] at hb
      exact ne.1 (by rw [← e, hb])
    · simp [Value.ownBlock] at hb
      exact ne.2.1 (by rw [← e, hb])
    · show sumQ m.l (t / m.l) (r.tk (j + 1)) = (if t / m.l = m.t / m.l then m.n else fun _ => 0) j
      by_cases he : t / m.l = m.t / m.l
      · rw [if_pos he, he]; exact h.sm j hj
      · rw [if_neg he]
        refine sumQ_zero _ (fun x hx => ?_)
        have hx1 := (h.le (j + 1) x (by omega) hx).2.1
        have l1 := ok.l1
        have d1 : x.at_ / m.l ≤ m.t / m.l := Int.ediv_le_ediv (by omega) hx1
        have d2 : m.t / m.l ≤ t / m.l := Int.ediv_le_ediv (by omega) (by omega)
        intro e
        exact he (by omega)
    · have := h.le j x hj hx
      exact ⟨this.1, by show x.at_ ≤ t; omega, this.2.2⟩
end Go.Proofs.Ytdanedibjccldaa

/-
  The document's Acts.
-/
namespace Go.Proofs.Ytdanedibjccldaa
open Go.RowKit
set_option linter.unusedVariables false

def updV {α : Type} (f : Nat → α) (i : Nat) (x : α) : Nat → α := fun j => if j = i then x else f j
theorem updV_same {α : Type} (f : Nat → α) (i : Nat) (x : α) : updV f i x i = x := if_pos rfl
theorem updV_ne {α : Type} (f : Nat → α) {i j : Nat} (x : α) (h : j ≠ i) : updV f i x j = f j := if_neg h
theorem takF_snoc (L : List Tak) (y : Tak) (j : Nat) (hj : j < (L.length + 1) * 2) : (if j < L.length * 2 then takF L j else (if j - L.length * 2 = 0 then Value.int .i64 y.at_ else .int .i64 y.n)) = takF (L ++ [y]) j := by
  by_cases h : j < L.length * 2
  · rw [if_pos h]
    unfold takF
    rw [show (L ++ [y]).getD (j / 2) ⟨0, 0⟩ = L.getD (j / 2) ⟨0, 0⟩ by simp [List.getD, List.getElem?_append_left (show j / 2 < L.length by omega)]]
  · rw [if_neg h]
    unfold takF
    rw [show (L ++ [y]).getD (j / 2) ⟨0, 0⟩ = y by rw [show j / 2 = L.length by omega]; simp [List.getD]]
    by_cases h2 : j % 2 = 0
    · rw [if_pos h2, if_pos (by omega)]
    · rw [if_neg h2, if_neg (by omega)]

variable {w : World} {r : Rp} {c : Cf} {m : Ms} {M : Nat}

theorem racts_after (h : RfAt w r c m M) (ok : m.Ok) {i : Nat} (hi : i < c.r0.toNat) (k : Int) (hk : 0 ≤ k) {o : Obj} {g' c' : Nat} {w2 : World}
    (hown : w2.ownsRow 0 59 2 (.slice (some ⟨g', 0, none⟩) ((r.tk (i + 1)).length + 1) c') ((r.tk (i + 1)).length + 1) ((List.range ((r.tk (i + 1)).length * 2)).map (takF (r.tk (i + 1))) ++ [.int .i64 m.t, .int .i64 k]))
    (hgr : (w.alloc o).drew.grownBy w2 (r.sl (i + 1)).ownBlock) (hlies : (r.sl (i + 1)).ownBlock = some g' ∨ g' = w.heap.size + 1) :
    w2.cell? ⟨r.R, 17, none⟩ = some (.slice (some ⟨r.tb, 0, none⟩) (c.r0.toNat + 1) r.tc) ∧ w2.cell? ⟨r.tb, i + 1, none⟩ = some (r.sl (i + 1)) ∧ w2.frozen? ⟨r.tb, i + 1, none⟩ = false ∧
    RfAt (w2.setCell ⟨r.tb, i + 1, none⟩ (.slice (some ⟨g', 0, none⟩) ((r.tk (i + 1)).length + 1) c')) { r with sl := updV r.sl (i + 1) (.slice (some ⟨g', 0, none⟩) ((r.tk (i + 1)).length + 1) c'), tk := updV r.tk (i + 1) (r.tk (i + 1) ++ [⟨m.t, k⟩]) } c { m with n := upd m.n i (m.n i + k) } (M + 1) ∧
    RS w r c.r0.toNat (w2.setCell ⟨r.tb, i + 1, none⟩ (.slice (some ⟨g', 0, none⟩) ((r.tk (i + 1)).length + 1) c')) { r with sl := updV r.sl (i + 1) (.slice (some ⟨g', 0, none⟩) ((r.tk (i + 1)).length + 1) c'), tk := updV r.tk (i + 1) (r.tk (i + 1) ++ [⟨m.t, k⟩]) } := by
  have hJ : i + 1 ≤ c.r0.toNat := by omega
  have hrow : Row w2 59 2 (.slice (some ⟨g', 0, none⟩) ((r.tk (i + 1)).length + 1) c') ((r.tk (i + 1)).length + 1) (takF (r.tk (i + 1) ++ [⟨m.t, k⟩])) := by
    refine (Row.snoc (x := fun j => if j = 0 then .int .i64 m.t else .int .i64 k) hown rfl (by
      intro j hj
      match j, hj with
      | 0, _ => rfl
      | 1, _ => rfl)).congr (fun j hj => ?_)
    exact takF_snoc (r.tk (i + 1)) ⟨m.t, k⟩ j hj
  have mU : Mv w (w.alloc o).drew (RFt r c.r0.toNat) := ((Mv.refl w (RFt r c.r0.toNat)).alloc o).drew
  have sU : (w.alloc o).drew.heap.size = w.heap.size + 1 := by show (w.heap.push o).size = _; simp
  have m2 : Mv w w2 (RFt r c.r0.toNat) := mU.grown hgr (fun b hb => .inl (.inr (.inr (.inr ⟨i + 1, hJ, hb⟩))))
  have bl : ∀ {b : Nat}, b < w.heap.size → (r.sl (i + 1)).ownBlock ≠ some b → w2.heap[b]? = w.heap[b]? := by
    intro b hlt hv
    rw [hgr.block b (by rw [sU]; omega) (fun e2 => hv e2.symm)]
    show (w.alloc o).heap[b]? = _
    rw [Below.heap_alloc _ _ _ hlt]
  have neR : (r.sl (i + 1)).ownBlock ≠ some r.R := fun e => (h.neLs hJ e).1 rfl
  have neP : (r.sl (i + 1)).ownBlock ≠ some r.pb := fun e => (h.neLs hJ e).2.1 rfl
  have neT : (r.sl (i + 1)).ownBlock ≠ some r.tb := fun e => (h.neLs hJ e).2.2 rfl
  have ltR := lt_of h.blk
  have ltP : r.pb < w.heap.size := h.pl.lt _ rfl
  have ltT : r.tb < w.heap.size := h.ta.lt _ rfl
  have eR := (bl ltR neR).trans h.blk
  have hP : Row w2 3 1 (.slice (some ⟨r.pb, 0, none⟩) (c.r0.toNat + 1) r.pc) (c.r0.toNat + 1) _ := h.pl.of_block (fun b hb => by simp [Value.ownBlock] at hb; subst hb; exact bl ltP neP)
  have hT : Row w2 57 1 (.slice (some ⟨r.tb, 0, none⟩) (c.r0.toNat + 1) r.tc) (c.r0.toNat + 1) r.sl := h.ta.of_block (fun b hb => by simp [Value.ownBlock] at hb; subst hb; exact bl ltT neT)
  have hG : g' ≠ r.tb := by
    rcases hlies with e | e
    · exact (h.neLs hJ e).2.2
    · omega
  have hLs : ∀ j, j ≤ c.r0.toNat → j ≠ i + 1 → Row w2 59 2 (r.sl j) (r.tk j).length (takF (r.tk j)) := fun j hj hne =>
    (h.ls j hj).of_block (fun b hb => bl ((h.ls j hj).lt b hb) (fun e => hne (h.ap j (i + 1) b hj hJ hb e)))
  have k1 : Mv w2 (w2.setCell ⟨r.tb, i + 1, none⟩ (.slice (some ⟨g', 0, none⟩) ((r.tk (i + 1)).length + 1) c')) (fun b => b = r.tb) := (Mv.refl w2 (fun b => b = r.tb)).setCell (.inl rfl) _
  have ne := h.nePl
  have gne : ∀ j b, j ≤ c.r0.toNat → (r.sl j).ownBlock = some b → g' = b → j = i + 1 := by
    intro j b hj hb e
    rcases hlies with e1 | e1
    · exact h.ap j (i + 1) b hj hJ hb (by rw [e1, e])
    · have := (h.ls j hj).lt b hb
      omega
  refine ⟨(cell_of eR 17).trans rfl, hT.cell (by omega), hT.frozen _, ⟨(k1.block _ (lt_of eR) ne.2.1).trans eR, k1.row hP (fun b hb e => ?_), ?_, fun j hj => ?_, fun j j' b hj hj' hb hb' => ?_, fun j hj => ?_, fun j x hj hx => ?_, h.ec, h.es, h.ea, h.el, h.rb, h.rl, fun j hj => ?_⟩, ⟨?_, fun b hb => ?_, rfl⟩⟩
  · simp [Value.ownBlock] at hb
    exact ne.2.2 (by rw [hb, e])
  · exact (hT.set (i + 1) _).congr (fun j _ => rfl)
  · show Row _ 59 2 (updV r.sl (i + 1) _ j) (updV r.tk (i + 1) _ j).length (takF (updV r.tk (i + 1) _ j))
    by_cases e : j = i + 1
    · subst e
      rw [updV_same, updV_same, List.length_append]
      exact k1.row hrow (fun b hb e => by simp [Value.ownBlock] at hb; exact hG (by rw [hb, e]))
    · rw [updV_ne _ _ e, updV_ne _ _ e]
      exact k1.row (hLs j hj e) (fun b hb => (h.neLs hj hb).2.2)
  · replace hb : (updV r.sl (i + 1) _ j).ownBlock = some b := hb
    replace hb' : (updV r.sl (i + 1) _ j').ownBlock = some b := hb'
    by_cases e : j = i + 1
    · by_cases e' : j' = i + 1
      · rw [e, e']
      · rw [e, updV_same] at hb
        rw [updV_ne _ _ e'] at hb'
        simp [Value.ownBlock] at hb
        rw [e, gne j' b hj' hb' hb]
    · rw [updV_ne _ _ e] at hb
      by_cases e' : j' = i + 1
      · rw [e', updV_same] at hb'
        simp [Value.ownBlock] at hb'
        rw [e', gne j b hj hb hb']
      · rw [updV_ne _ _ e'] at hb'
        exact h.ap j j' b hj hj' hb hb'
  · show sumQ m.l (m.t / m.l) (updV r.tk (i + 1) _ (j + 1)) = upd m.n i (m.n i + k) j
    by_cases e : j = i
    · subst e
      rw [updV_same, upd_same, sumQ_app, sumQ_one, if_pos rfl, h.sm j hj]
    · rw [updV_ne _ _ (by omega), upd_ne _ _ e, h.sm j hj]
  · replace hx : x ∈ updV r.tk (i + 1) _ j := hx
    by_cases e : j = i + 1
    · rw [e, updV_same] at hx
      rcases List.mem_append.1 hx with hx | hx
      · exact h.le (i + 1) x hJ hx
      · simp at hx
        subst hx
        exact ⟨ok.t1, Int.le_refl _, hk⟩
    · rw [updV_ne _ _ e] at hx
      exact h.le j x hj hx
  · show (updV r.tk (i + 1) _ j).length ≤ M + 1
    have := h.ln j hj
    by_cases e : j = i + 1
    · subst e
      rw [updV_same, List.length_append]
      simpa using this
    · rw [updV_ne _ _ e]; omega
  · exact m2.setCell (.inl (.inr (.inr (.inl rfl)))) _
  · rcases hb with e | e | e | ⟨j, hj, e⟩
    · exact .inl (.inl e)
    · exact .inl (.inr (.inl e))
    · exact .inl (.inr (.inr (.inl e)))
    · replace e : (updV r.sl (i + 1) _ j).ownBlock = some b := e
      by_cases ej : j = i + 1
      · rw [ej, updV_same] at e
        simp [Value.ownBlock] at e
        rcases hlies with e1 | e1
        · exact .inl (.inr (.inr (.inr ⟨i + 1, hJ, by rw [e1, e]⟩)))
        · exact .inr (by omega)
      · rw [updV_ne _ _ ej] at e
        exact .inl (.inr (.inr (.inr ⟨j, hj, e⟩)))
end Go.Proofs.Ytdanedibjccldaa

/-
  The walk of the document's Acts.
-/
namespace Go.Proofs.Ytdanedibjccldaa
open Go.RowKit
set_option linter.unusedVariables false

variable {w : World} {r : Rp} {c : Cf} {m : Ms} {M : Nat}
theorem info59 : (Try.prog.info? 59).map (fun i => (i.zero, i.size, i.bytes)) = some (some (.agg #[.int .i64 0, .int .i64 0]), 2, 16) := by kernel_rfl
theorem two_new (w : World) (n x : Int) : ∀ j u, [Value.int .i64 n, .int .i64 x][j]? = some u → (w.alloc (.cells #[.int .i64 n, .int .i64 x] 59)).drew.cell? ((⟨w.heap.size, 0, none⟩ : Addr).add j) = some u := by
  intro j u hu
  have hh : (w.alloc (.cells #[.int .i64 n, .int .i64 x] 59)).drew.heap[w.heap.size]? = some (.cells #[.int .i64 n, .int .i64 x] 59 (0, 0)) := heap_new w _
  exact World.news_of_block hh j u (by simpa using hu)
theorem RfAt.more (h : RfAt w r c m M) : RfAt w r c m (M + 1) := ⟨h.blk, h.pl, h.ta, h.ls, h.ap, h.sm, h.le, h.ec, h.es, h.ea, h.el, h.rb, h.rl, fun j hj => Nat.le_succ_of_le (h.ln j hj)⟩
theorem racts_no (h : RfAt w r c m M) (x k : Int) (hB : isB m x = false) :
    Calls Try.prog 10 #[.pointer (some ⟨r.R, 0, none⟩), .int .i64 x, .int .i64 k] w fun e w' => e = .returned (.int .i64 1) ∧ Qt w w' := by
  have cH := is_any h x
  rw [hB] at cH
  go_enter Try.func10, Try.ntmps10
  go_wp2_with fail
  refine cH.mono ?_
  rintro e w' ⟨rfl, rfl⟩
  go_wp2_with fail
  go_ret
  exact ⟨rfl, Mv.refl _ _⟩
theorem racts_neg (h : RfAt w r c m M) (x k : Int) (hB : isB m x = true) (hk : k < 0) :
    Calls Try.prog 10 #[.pointer (some ⟨r.R, 0, none⟩), .int .i64 x, .int .i64 k] w fun e w' => e = .returned (.int .i64 1) ∧ Qt w w' := by
  have cH := is_any h x
  rw [hB] at cH
  go_enter Try.func10, Try.ntmps10
  go_wp2_with fail
  refine cH.mono ?_
  rintro e w' ⟨rfl, rfl⟩
  go_wp2_with fail
  go_ret
  exact ⟨rfl, Mv.refl _ _⟩
theorem racts_far (h : RfAt w r c m M) (ok : m.Ok) (hM : M ≤ 4398046511104) (i : Nat) (hi : i < 8) (k : Int) (hB : isB m ((i : Int) + 1) = true) (hk : ¬ k < 0) (hf : m.a - m.n i < k) :
    Calls Try.prog 10 #[.pointer (some ⟨r.R, 0, none⟩), .int .i64 ((i : Int) + 1), .int .i64 k] w fun e w' => e = .returned (.int .i64 220) ∧ Qt w w' := by
  have cH := is_any h ((i : Int) + 1)
  rw [hB] at cH
  have n1 := ok.n1 i
  have n2 := ok.n2 i
  have a2 := ok.a2
  go_enter Try.func10, Try.ntmps10
  go_wp2_with fail
  refine cH.mono ?_
  rintro e w' ⟨rfl, rfl⟩
  go_wp2_with fail
  refine (rused_yes h ok hM i hi hB).mono ?_
  rintro e w1 ⟨rfl, q1⟩
  have c13 : w1.cell? ⟨r.R, 13, none⟩ = some (.int .i64 m.a) := by rw [h.ea]; exact (h.qt q1).cell 13
  go_wp2_with fail
  go_ret
  exact ⟨rfl, q1⟩
set_option maxRecDepth 100000 in
set_option maxHeartbeats 1000000 in
theorem racts_ok (h : RfAt w r c m M) (ok : m.Ok) (hM : M + 1 ≤ 4398046511104) (i : Nat) (hi : i < 8) (k : Int) (hB : isB m ((i : Int) + 1) = true) (hk : ¬ k < 0) (hf : ¬ m.a - m.n i < k) :
    Calls Try.prog 10 #[.pointer (some ⟨r.R, 0, none⟩), .int .i64 ((i : Int) + 1), .int .i64 k] w fun e w' => e = .returned (.int .i64 0) ∧ ∃ r', RS w r c.r0.toNat w' r' ∧ RfAt w' r' c { m with n := upd m.n i (m.n i + k) } (M + 1) := by
  have hi' : i < c.r0.toNat := by have := (isB_iff.1 hB).2; rw [h.ec] at this; omega
  have cH := is_any h ((i : Int) + 1)
  rw [hB] at cH
  have n1 := ok.n1 i
  have n2 := ok.n2 i
  have a2 := ok.a2
  go_enter Try.func10, Try.ntmps10
  go_wp2_with fail
  refine cH.mono ?_
  rintro e w' ⟨rfl, rfl⟩
  go_wp2_with fail
  refine (rused_yes h ok (by omega) i hi hB).mono ?_
  rintro e w1 ⟨rfl, q1⟩
  replace h := h.qt q1
  have c13 : w1.cell? ⟨r.R, 13, none⟩ = some (.int .i64 m.a) := by rw [h.ea]; exact h.cell 13
  have c15 : w1.cell? ⟨r.R, 15, none⟩ = some (.int .i64 m.t) := h.cell 15
  have c17 : w1.cell? ⟨r.R, 17, none⟩ = some (.slice (some ⟨r.tb, 0, none⟩) (c.r0.toNat + 1) r.tc) := h.cell 17
  have ct : w1.cell? ⟨r.tb, i + 1, none⟩ = some (r.sl (i + 1)) := h.ta.cell (by omega)
  obtain ⟨i0, hi0, hz0, hz1, hz2⟩ := info_parts info59
  obtain ⟨ao, cp, hV, _, _⟩ := (h.ls (i + 1) (by omega)).form
  have ltR := lt_of h.blk
  have ltT : r.tb < w1.heap.size := h.ta.lt _ rfl
  have c152 : (w1.alloc (.cells #[.int .i64 m.t, .int .i64 k] 59)).cell? ⟨r.R, 15, none⟩ = some (.int .i64 m.t) := (World.cell?_of_block (Below.heap_alloc w1 _ _ ltR)).trans c15
  have c172 : (w1.alloc (.cells #[.int .i64 m.t, .int .i64 k] 59)).cell? ⟨r.R, 17, none⟩ = some (.slice (some ⟨r.tb, 0, none⟩) (c.r0.toNat + 1) r.tc) := (World.cell?_of_block (Below.heap_alloc w1 _ _ ltR)).trans c17
  have ct2 : (w1.alloc (.cells #[.int .i64 m.t, .int .i64 k] 59)).cell? ⟨r.tb, i + 1, none⟩ = some (r.sl (i + 1)) := (World.cell?_of_block (Below.heap_alloc w1 _ _ ltT)).trans ct
  have hr0 : Row (w1.alloc (.cells #[.int .i64 m.t, .int .i64 k] 59)).drew 59 2 (r.sl (i + 1)) (r.tk (i + 1)).length (takF (r.tk (i + 1))) := (h.ls (i + 1) (by omega)).alloc _
  have hnew := two_new w1 m.t k
  have hone : ∀ u ∈ [Value.int .i64 m.t, .int .i64 k], u.oneCell' = true := by intro u hu; simp at hu; rcases hu with rfl | rfl <;> rfl
  have hln := h.ln (i + 1) (by omega)
  have hmx : (r.tk (i + 1)).length + 1 ≤ maxLen := by simp only [maxLen]; omega
  have hby : ((r.tk (i + 1)).length + 1) * 16 ≤ 140737488355328 := by omega
  have hsz : (w1.alloc (.cells #[.int .i64 m.t, .int .i64 k] 59)).drew.heap.size = w1.heap.size + 1 := by show (w1.heap.push _).size = _; simp
  have HA : ∀ g' c' w2, w2.ownsRow 0 59 2 (.slice (some ⟨g', 0, none⟩) ((r.tk (i + 1)).length + 1) c') ((r.tk (i + 1)).length + 1) ((List.range ((r.tk (i + 1)).length * 2)).map (takF (r.tk (i + 1))) ++ [.int .i64 m.t, .int .i64 k]) → (w1.alloc (.cells #[.int .i64 m.t, .int .i64 k] 59)).drew.grownBy w2 (r.sl (i + 1)).ownBlock → ((r.sl (i + 1)).ownBlock = some g' ∨ g' = w1.heap.size + 1) → _ := fun g' c' w2 a1 a2 a3 => racts_after h ok hi' k (by omega) (g' := g') (c' := c') (w2 := w2) a1 a2 a3
  rw [hV] at ct ct2 hr0 HA
  have hnn : i + 1 < c.r0.toNat + 1 := by omega
  clear hV
  generalize c.r0.toNat + 1 = nn at *
  have hb1 : (i : Int) + 1 < (nn : Int) := by omega
  have hb0 : 0 ≤ (i : Int) + 1 := by omega
  generalize hL : (r.tk (i + 1)).length = len at *
  go_wp2_with fail
  go_region_law (refine step_append_lies _ rfl (.tmp 45) (.tmp 52) 57 rfl 0 59 i0 (.agg #[.int .i64 0, .int .i64 0]) 2 16 Try.underlying57 hi0 hz0 hz1 hz2 rfl (by decide) (.slice ao len cp) len _ (by simp [Act.eval]) hr0 ⟨w1.heap.size, 0, none⟩ 1 1 [.int .i64 m.t, .int .i64 k] (by simp [Act.eval]) rfl hnew hone (by decide) hmx hby (Nat.zero_le _) (w1.heap.size + 1) hsz ?_; intro g' c' w2 hown hgr hlies _; obtain ⟨r0, r1, r2, r3, r4⟩ := HA g' c' w2 hown hgr hlies)
  all_goals go_wp2_with fail
  all_goals go_ret
  all_goals exact ⟨rfl, _, r4.pre q1, r3⟩
theorem racts_any (h : RfAt w r c m M) (ok : m.Ok) (hM : M + 1 ≤ 4398046511104) (x k : Int) :
    Calls Try.prog 10 #[.pointer (some ⟨r.R, 0, none⟩), .int .i64 x, .int .i64 k] w fun e w' => e = .returned (.int .i64 (actE m x k)) ∧ ∃ r', RS w r c.r0.toNat w' r' ∧ RfAt w' r' c (actM m x k) (M + 1) := by
  have hq : ∀ {w' : World} {e : Int}, actE m x k = e → e ≠ 0 → Qt w w' → ∃ r', RS w r c.r0.toNat w' r' ∧ RfAt w' r' c (actM m x k) (M + 1) := by
    intro w' e he hne hv
    refine ⟨r, RS.quiet r _ hv, ?_⟩
    unfold actM
    rw [if_neg (by rw [he]; exact hne)]
    exact (h.qt hv).more
  by_cases hB : isB m x = true
  · obtain ⟨i, hi, rfl, hc⟩ := client ok hB
    by_cases hk : k < 0
    · have hE : actE m ((i : Int) + 1) k = 1 := by unfold actE; rw [if_pos (.inr hk)]
      refine (racts_neg h _ k hB hk).mono fun e w' ⟨he, hv⟩ => ⟨by rw [he, hE], hq hE (by decide) hv⟩
    · by_cases hf : m.a - m.n i < k
      · have hE : actE m ((i : Int) + 1) k = 220 := by
          unfold actE
          rw [if_neg (by rw [hB]; simp; omega), toNat1, if_pos hf]
        refine (racts_far h ok (by omega) i hi k hB hk hf).mono fun e w' ⟨he, hv⟩ => ⟨by rw [he, hE], hq hE (by decide) hv⟩
      · have hE : actE m ((i : Int) + 1) k = 0 := by
          unfold actE
          rw [if_neg (by rw [hB]; simp; omega), toNat1, if_neg hf]
        refine (racts_ok h ok hM i hi k hB hk hf).mono fun e w' ⟨he, r', hv, hm⟩ => ⟨by rw [he, hE], r', hv, ?_⟩
        unfold actM
        rw [if_pos hE, toNat1]
        exact hm
  · have hB' : isB m x = false := by simpa using hB
    have hE : actE m x k = 1 := by unfold actE; rw [if_pos (.inl hB')]
    exact (racts_no h x k hB').mono fun e w' ⟨he, hv⟩ => ⟨by rw [he, hE], hq hE (by decide) hv⟩
end Go.Proofs.Ytdanedibjccldaa
