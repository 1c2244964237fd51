import Derived.Test.YtdanedibjccldaaM0
import Derived.Deep.MidRow
import Derived.Deep.RegionHeld3
/-
  Tick: a new window begins where one does.
-/
namespace Go.Proofs.Ytdanedibjccldaa
open Go.RowKit

def cnA (p n : Nat → Int) : Array Value := #[.int .i64 (p 0), .int .i64 (n 0), .int .i64 (p 1), .int .i64 (n 1), .int .i64 (p 2), .int .i64 (n 2), .int .i64 (p 3), .int .i64 (n 3),
  .int .i64 (p 4), .int .i64 (n 4), .int .i64 (p 5), .int .i64 (n 5), .int .i64 (p 6), .int .i64 (n 6), .int .i64 (p 7), .int .i64 (n 7)]
theorem cnA_all (p n : Nat → Int) : (cnA p n).all (·.oneCell') = true := by
  simp [cnA, Value.oneCell']
theorem cnA_size (p n : Nat → Int) : (cnA p n).size = 16 := rfl
theorem info49 : (Try.prog.info? 49).map (·.size) = some 16 := by kernel_rfl
theorem cnA_n (p n : Nat → Int) {i : Nat} (hi : i < 8) : (cnA p n)[i * 2 + 1]? = some (.int .i64 (n i)) :=
  eight (P := fun i => (cnA p n)[i * 2 + 1]? = some (.int .i64 (n i))) hi rfl rfl rfl rfl rfl rfl rfl rfl
/-- The first i of them have no actions. -/
def cutN (n : Nat → Int) (i : Nat) : Nat → Int := fun j => if j < i then 0 else n j
theorem cnA_cut (p n : Nat → Int) {i : Nat} (hi : i < 8) : (cnA p (cutN n i)).setIfInBounds (i * 2 + 1) (.int .i64 0) = cnA p (cutN n (i + 1)) :=
  eight (P := fun i => (cnA p (cutN n i)).setIfInBounds (i * 2 + 1) (.int .i64 0) = cnA p (cutN n (i + 1))) hi rfl rfl rfl rfl rfl rfl rfl rfl
def cn0 : Array Value := #[.int .i64 0, .int .i64 0, .int .i64 0, .int .i64 0, .int .i64 0, .int .i64 0, .int .i64 0, .int .i64 0, .int .i64 0, .int .i64 0, .int .i64 0, .int .i64 0, .int .i64 0, .int .i64 0, .int .i64 0, .int .i64 0]

theorem Mv.setRow {w w' : World} {F : Nat → Prop} (h : Mv w w' F) {g : Nat} (ha : F g ∨ w.heap.size ≤ g) (cs : Array Value) : Mv w (w'.setRow g cs) F :=
  h.trans (F' := fun b => b = g) ⟨rfl, rfl, rfl, by simp, fun b _ hn => setRow_other _ _ _ _ hn⟩ (fun b e => by cases e; exact ha)
theorem Mv.setCells {F : Nat → Prop} {b : Nat} : ∀ (l : List Value) (o : Nat) {w w' : World}, Mv w w' F → (F b ∨ w.heap.size ≤ b) → Mv w (w'.setCells b o l) F
  | [], _, _, _, h, _ => h
  | v :: r, o, _, _, h, hb => Mv.setCells r (o + 1) (h.setCell (a := ⟨b, o, none⟩) hb v) hb
def setL (a : Array Value) (o : Nat) : List Value → Array Value
  | [] => a
  | v :: r => setL (a.setIfInBounds o v) (o + 1) r
termination_by l => l.length
theorem setCells_of {b : Nat} {t : TypeId} {fz : Nat × Nat} : ∀ (l : List Value) (o : Nat) {w : World} {a : Array Value}, w.heap[b]? = some (.cells a t fz) → (w.setCells b o l).heap[b]? = some (.cells (setL a o l) t fz)
  | [], _, _, _, h => by rw [setL]; exact h
  | v :: r, o, _, _, h => by rw [setL]; exact setCells_of r (o + 1) (setCell_of h o v)
theorem setL_ms (m : Ms) : setL (msA m) 5 (cnA m.p (fun _ => 0)).toList = msA { m with n := fun _ => 0 } := by
  simp [setL, cnA, msA]

/-- Both boxes of withoutActs. -/
structure Wo (w W : World) (B : Nat) (p n : Nat → Int) : Prop where
  a : W.heap[B]? = some (.cells (cnA p n) 49 (0, 0))
  r : W.heap[B + 1]? = some (.cells cn0 49 (0, 0))
  mv : Qt w W
  nb : w.heap.size ≤ B
set_option maxRecDepth 100000 in
theorem without_any (p n : Nat → Int) (w : World) :
    Calls Try.prog 25 #[.agg (cnA p n)] w fun e w' => e = .returned (.agg (cnA p (fun _ => 0))) ∧ Qt w w' := by
  have hX : Wo w ((w.alloc (.cells (cnA p n) 49)).alloc (.cells cn0 49)) w.heap.size p (cutN n 0) := by
    refine ⟨?_, ?_, ((Mv.refl w _).alloc _).alloc _, Nat.le_refl _⟩
    · rw [Below.heap_alloc _ _ _ (by simp)]; exact heap_new w _
    · have := heap_new (w.alloc (.cells (cnA p n) 49)) (.cells cn0 49)
      rwa [size_alloc] at this
  unfold cn0 at hX
  go_enter Try.func25, Try.ntmps25
  go_upto_region 1 with fail
  generalize hWW : (w.alloc (.cells (cnA p n) 49)).alloc _ = W at hX ⊢
  generalize hBB : w.heap.size = B at hX ⊢
  clear hWW hBB
  go_wp2_with fail
  go_loopw [3, 4] (fun _ v4 wr => ∃ i : Nat, i ≤ 8 ∧ v4 = .int .i64 i ∧ Wo w wr B p (cutN n i)) (fun _ v4 _ => 8 - (intOf v4).toNat)
  case atStart => exact ⟨0, by omega, rfl, hX⟩
  case round =>
    obtain ⟨i, hi, rfl, hW⟩ := hrel
    by_cases hlt : i < 8
    · have hb : (i : Int) < 8 := by omega
      have c1 : wr.cell? ⟨B, i * 2 + 1, none⟩ = some (.int .i64 (cutN n i i)) := (cell_of hW.a _).trans (cnA_n p _ hlt)
      have f1 := frozen_of hW.a (i * 2 + 1)
      have hN : Wo w (wr.setCell ⟨B, i * 2 + 1, none⟩ (.int .i64 0)) B p (cutN n (i + 1)) := by
        refine ⟨?_, ?_, hW.mv.setCell (.inr hW.nb) _, hW.nb⟩
        · rw [← cnA_cut p n hlt]; exact setCell_of hW.a _ _
        · rw [Below.heap_setCell _ _ _ _ (by simp)]; exact hW.r
      go_wp2_with fail
      go_round
      case rel => exact ⟨i + 1, by omega, by go_num, hN⟩
      case measure => simp [intOf]; omega
    · have hb : ¬ (i : Int) < 8 := by omega
      have e8 : i = 8 := by omega
      have hA : wr.heap[B]? = some (.cells (cnA p (fun _ => 0)) 49 (0, 0)) := by
        rw [hW.a, e8]; rfl
      go_wp2_with (first
        | refine wpList_load_row rfl 49 (.tmp 1) rfl B rfl 49 (cnA p (fun _ => 0)) (0, 0) _ hA Try.underlying49 rfl info49 ?_
        | refine wpList_store_row rfl 49 (.tmp 2) (.tmp 11) rfl (B + 1) (cnA p (fun _ => 0)) rfl rfl 49 cn0 hW.r info49 rfl (cnA_all _ _) ?_)
      refine bodyPost_ret (results_cell_row rfl _ _ (B + 1) 49 (cnA p (fun _ => 0)) (0, 0) _ rfl (setRow_heap _ _ _ _ _ _ hW.r) Try.underlying49 rfl info49) rfl ⟨rfl, ?_⟩
      exact hW.mv.setRow (.inr (by have := hW.nb; omega)) _

/-- What Tick tells, and what is there then. -/
def tckE (m : Ms) (t : Int) : Int := if t < m.t ∨ 1000000000000000 < t then 223 else 0
def tckM (m : Ms) (t : Int) : Ms := if tckE m t = 0 then { m with t := t, n := if t / m.l = m.t / m.l then m.n else fun _ => 0 } else m
theorem tckM_ok {m : Ms} (ok : m.Ok) (t : Int) : (tckM m t).Ok := by
  unfold tckM
  by_cases hE : tckE m t = 0
  · rw [if_pos hE]
    unfold tckE at hE
    by_cases h1 : t < m.t ∨ 1000000000000000 < t
    · rw [if_pos h1] at hE; cases hE
    · have := ok.t1
      have := ok.a1
      refine ⟨ok.c1, ok.c2, ok.s1, ok.s2, ok.a1, ok.a2, ok.l1, ok.l2, by show 0 ≤ t; omega, by show t ≤ _; omega, ok.p1, ok.p2, fun i => ?_, fun i => ?_⟩
      · show 0 ≤ (if t / m.l = m.t / m.l then m.n else fun _ => 0) i
        split
        · exact ok.n1 i
        · exact Int.le_refl 0
      · show (if t / m.l = m.t / m.l then m.n else fun _ => 0) i ≤ m.a
        split
        · exact ok.n2 i
        · exact ok.a1
  · rw [if_neg hE]; exact ok
theorem tick_no {w : World} {b : Nat} {m : Ms} (h : MsAt w b m) (t : Int) (hf : inB t m.t 1000000000000000 = false) :
    Calls Try.prog 15 #[.pointer (some ⟨b, 0, none⟩), .int .i64 t] w fun e w' => e = .returned (.int .i64 223) ∧ Qt w w' := by
  have c4 := h.c4
  go_enter Try.func15, Try.ntmps15
  go_wp2_with fail
  refine (fits_b hf _).mono ?_
  rintro e w' ⟨rfl, rfl⟩
  go_wp2_with fail
  go_ret
  exact ⟨rfl, Mv.refl _ _⟩
theorem ms_range {w : World} {b : Nat} {m : Ms} (h : MsAt w b m) : w.rangeAt b 5 (cnA m.p m.n).toList := by
  intro j v hj
  rw [cell_of h]
  have hl : j < 16 := by
    have := (List.getElem?_eq_some_iff.1 hj).1
    have e : (cnA m.p m.n).toList.length = 16 := rfl
    omega
  match j, hl, hj with
  | 0, _, hj | 1, _, hj | 2, _, hj | 3, _, hj | 4, _, hj | 5, _, hj | 6, _, hj | 7, _, hj | 8, _, hj | 9, _, hj | 10, _, hj | 11, _, hj | 12, _, hj | 13, _, hj | 14, _, hj | 15, _, hj => exact hj
theorem ms_there {w : World} {b : Nat} {m : Ms} (h : MsAt w b m) (p n : Nat → Int) : w.there b 5 (cnA p n).size := by
  intro j hj
  refine ⟨?_, frozen_of h _⟩
  rw [cell_of h]
  have : 5 + j < (msA m).size := by
    have e : (msA m).size = 21 := rfl
    have e' : (cnA p n).size = 16 := rfl
    omega
  simp [this]
theorem tick_same {w : World} {b : Nat} {m : Ms} (h : MsAt w b m) (ok : m.Ok) (t : Int) (hf : inB t m.t 1000000000000000 = true) (ho : ({ m with t := t } : Ms).Ok) (he : t / m.l = m.t / m.l) :
    Calls Try.prog 15 #[.pointer (some ⟨b, 0, none⟩), .int .i64 t] w fun e w' => e = .returned (.int .i64 0) ∧ At b w w' ∧ MsAt w' b { m with t := t } := by
  have c4 := h.c4
  go_enter Try.func15, Try.ntmps15
  go_wp2_with fail
  refine (fits_b hf _).mono ?_
  rintro e w' ⟨rfl, rfl⟩
  go_wp2_with fail
  refine (win_any h ok).mono ?_
  rintro e w1 ⟨rfl, m1⟩
  clear c4
  have h1 := h.mv m1 (fun e => e)
  have c4 := h1.c4
  have f4 := h1.fz 4
  have h2 := h1.sett t
  go_wp2_with fail
  refine (win_any h2 ho).mono ?_
  rintro e w2 ⟨rfl, m2⟩
  have h3 := h2.mv m2 (fun e => e)
  rw [show ({ m with t := t } : Ms).t / ({ m with t := t } : Ms).l = m.t / m.l from he]
  generalize m.t / m.l = q
  go_wp2_with fail
  go_ret
  exact ⟨rfl, (((m1.mono (F' := fun k => k = b) (fun _ e => e.elim)).setCell (.inl rfl) _).trans m2 (fun _ e => e.elim)), h3⟩
theorem tick_new {w : World} {b : Nat} {m : Ms} (h : MsAt w b m) (ok : m.Ok) (t : Int) (hf : inB t m.t 1000000000000000 = true) (ho : ({ m with t := t } : Ms).Ok) (he : t / m.l ≠ m.t / m.l) :
    Calls Try.prog 15 #[.pointer (some ⟨b, 0, none⟩), .int .i64 t] w fun e w' => e = .returned (.int .i64 0) ∧ At b w w' ∧ MsAt w' b { m with t := t, n := fun _ => 0 } := by
  have c4 := h.c4
  go_enter Try.func15, Try.ntmps15
  go_wp2_with fail
  refine (fits_b hf _).mono ?_
  rintro e w' ⟨rfl, rfl⟩
  go_wp2_with fail
  refine (win_any h ok).mono ?_
  rintro e w1 ⟨rfl, m1⟩
  clear c4
  have h1 := h.mv m1 (fun e => e)
  have c4 := h1.c4
  have f4 := h1.fz 4
  have h2 := h1.sett t
  go_wp2_with fail
  refine (win_any h2 ho).mono ?_
  rintro e w2 ⟨rfl, m2⟩
  have h3 := h2.mv m2 (fun e => e)
  have hq : t / m.l ≠ m.t / m.l := he
  generalize e1 : m.t / m.l = q1 at hq ⊢
  rw [show ({ m with t := t } : Ms).t / ({ m with t := t } : Ms).l = t / m.l from rfl]
  generalize e2 : t / m.l = q2 at hq ⊢
  clear e1 e2 he
  have hL := ms_range h3
  go_wp2_with (refine wpList_load_mid rfl 49 (.tmp 26) rfl b 5 rfl (cnA m.p m.n).toList _ hL Try.underlying49 rfl info49 ?_)
  refine (without_any m.p m.n w2).mono ?_
  rintro e w3 ⟨rfl, m3⟩
  have h4 := h3.mv m3 (fun e => e)
  go_wp2_with (refine wpList_store_mid rfl 49 (.tmp 30) (.tmp 28) rfl b 5 (cnA m.p (fun _ => 0)) rfl rfl (ms_there h4 _ _) info49 (cnA_all _ _) ?_)
  go_ret
  refine ⟨rfl, ?_, ?_⟩
  · exact Mv.setCells _ _ ((((m1.mono (F' := fun k => k = b) (fun _ e => e.elim)).setCell (.inl rfl) _).trans m2 (fun _ e => e.elim)).trans m3 (fun _ e => e.elim)) (.inl rfl)
  · have := setCells_of (cnA m.p (fun _ => 0)).toList 5 h4
    rw [show setL (msA { m with t := t }) 5 (cnA m.p (fun _ => 0)).toList = _ from setL_ms { m with t := t }] at this
    exact this
theorem tick_any {w : World} {b : Nat} {m : Ms} (h : MsAt w b m) (ok : m.Ok) (t : Int) :
    Calls Try.prog 15 #[.pointer (some ⟨b, 0, none⟩), .int .i64 t] w fun e w' => e = .returned (.int .i64 (tckE m t)) ∧ At b w w' ∧ MsAt w' b (tckM m t) := by
  by_cases hf : inB t m.t 1000000000000000 = true
  · have hb := inB_iff.1 hf
    have hE : tckE m t = 0 := by unfold tckE; rw [if_neg (by omega)]
    have := ok.t1
    have ho : ({ m with t := t } : Ms).Ok := ⟨ok.c1, ok.c2, ok.s1, ok.s2, ok.a1, ok.a2, ok.l1, ok.l2, by show 0 ≤ t; omega, hb.2, ok.p1, ok.p2, ok.n1, ok.n2⟩
    unfold tckM
    rw [if_pos hE, hE]
    by_cases he : t / m.l = m.t / m.l
    · rw [if_pos he]
      exact tick_same h ok t hf ho he
    · rw [if_neg he]
      exact tick_new h ok t hf ho he
  · have hf' : inB t m.t 1000000000000000 = false := by simpa using hf
    rw [inB_iff] at hf
    have hE : tckE m t = 223 := by unfold tckE; rw [if_pos (by omega)]
    unfold tckM
    rw [hE, if_neg (by decide)]
    exact (tick_no h t hf').mono fun e w' ⟨h1, h2⟩ => ⟨h1, h2.mono (fun _ e => e.elim), h.mv h2 (fun e => e)⟩
end Go.Proofs.Ytdanedibjccldaa

/-
  New; the chapter's example; the statements' head.
-/
namespace Go.Proofs.Ytdanedibjccldaa
open Go.RowKit

/-- A configuration, as it comes in. -/
structure Cf where
  r0 : Int
  r1 : Int
  r2 : Int
  r3 : Int
  r4 : Int
  r5 : Int
  or : Int
  lv : Int
  vo : Int
  ids : Int
  rd : Int
  st : Int
  op : Int
  ac : Int
  wi : Int
def cfA (c : Cf) : Array Value := #[.int .i64 c.r0, .int .i64 c.r1, .int .i64 c.r2, .int .i64 c.r3, .int .i64 c.r4, .int .i64 c.r5, .int .i64 c.or, .int .i64 c.lv, .int .i64 c.vo, .int .i64 c.ids, .int .i64 c.rd,
  .int .i64 c.st, .int .i64 c.op, .int .i64 c.ac, .int .i64 c.wi]
def newB (c : Cf) : Bool := inB c.r0 1 8 && inB c.st 0 8 && inB c.ac 0 1000000 && inB c.wi 1 1000000000000000
def newM (c : Cf) : Ms := ⟨c.r0, c.st, c.ac, c.wi, 0, fun _ => 0, fun _ => 0⟩
theorem newM_ok {c : Cf} (h : newB c = true) : (newM c).Ok := by
  unfold newB at h
  simp only [Bool.and_eq_true, inB_iff] at h
  obtain ⟨⟨⟨⟨h1, h2⟩, h3, h4⟩, h5, h6⟩, h7, h8⟩ := h
  exact ⟨h1, h2, h3, h4, h5, h6, h7, h8, Int.le_refl 0, by show (0 : Int) ≤ _; decide, fun _ => Int.le_refl 0, fun _ => h3, fun _ => Int.le_refl 0, fun _ => h5⟩
theorem new_no (c : Cf) (hB : newB c = false) (w : World) :
    Calls Try.prog 6 #[.agg (cfA c)] w fun e w' => e = .returned (.tuple #[.pointer none, .int .i64 1]) ∧ Qt w w' := by
  have hZ : (w.alloc (.cells (cfA c) 25)).heap[w.heap.size]? = some (.cells (cfA c) 25 (0, 0)) := heap_new w _
  have hM : Qt w (w.alloc (.cells (cfA c) 25)) := (Mv.refl w _).alloc _
  have z0 := cell_of hZ 0
  have z11 := cell_of hZ 11
  have z13 := cell_of hZ 13
  have z14 := cell_of hZ 14
  unfold newB at hB
  unfold cfA at *
  generalize e0 : inB c.r0 1 8 = d0 at hB
  generalize e1 : inB c.st 0 8 = d1 at hB
  generalize e2 : inB c.ac 0 1000000 = d2 at hB
  generalize e3 : inB c.wi 1 1000000000000000 = d3 at hB
  have k0 := fits_b e0
  have k1 := fits_b e1
  have k2 := fits_b e2
  have k3 := fits_b e3
  cases d0
  · clear hB
    go_enter Try.func6, Try.ntmps6
    go_wp2_with fail
    generalize hWW : w.alloc (.cells #[.int .i64 c.r0, .int .i64 c.r1, .int .i64 c.r2, .int .i64 c.r3, .int .i64 c.r4, .int .i64 c.r5, .int .i64 c.or, .int .i64 c.lv, .int .i64 c.vo, .int .i64 c.ids, .int .i64 c.rd, .int .i64 c.st, .int .i64 c.op, .int .i64 c.ac, .int .i64 c.wi] 25) = W at z0 z11 z13 z14 hM ⊢
    refine (k0 _).mono ?_
    rintro e w' ⟨rfl, rfl⟩
    go_wp2_with fail
    go_ret2
    exact ⟨rfl, hM⟩
  cases d1
  · clear hB
    go_enter Try.func6, Try.ntmps6
    go_wp2_with fail
    generalize hWW : w.alloc (.cells #[.int .i64 c.r0, .int .i64 c.r1, .int .i64 c.r2, .int .i64 c.r3, .int .i64 c.r4, .int .i64 c.r5, .int .i64 c.or, .int .i64 c.lv, .int .i64 c.vo, .int .i64 c.ids, .int .i64 c.rd, .int .i64 c.st, .int .i64 c.op, .int .i64 c.ac, .int .i64 c.wi] 25) = W at z0 z11 z13 z14 hM ⊢
    refine (k0 _).mono ?_
    rintro e w' ⟨rfl, rfl⟩
    go_wp2_with fail
    refine (k1 _).mono ?_
    rintro e w' ⟨rfl, rfl⟩
    go_wp2_with fail
    go_ret2
    exact ⟨rfl, hM⟩
  cases d2
  · clear hB
    go_enter Try.func6, Try.ntmps6
    go_wp2_with fail
    generalize hWW : w.alloc (.cells #[.int .i64 c.r0, .int .i64 c.r1, .int .i64 c.r2, .int .i64 c.r3, .int .i64 c.r4, .int .i64 c.r5, .int .i64 c.or, .int .i64 c.lv, .int .i64 c.vo, .int .i64 c.ids, .int .i64 c.rd, .int .i64 c.st, .int .i64 c.op, .int .i64 c.ac, .int .i64 c.wi] 25) = W at z0 z11 z13 z14 hM ⊢
    refine (k0 _).mono ?_
    rintro e w' ⟨rfl, rfl⟩
    go_wp2_with fail
    refine (k1 _).mono ?_
    rintro e w' ⟨rfl, rfl⟩
    go_wp2_with fail
    refine (k2 _).mono ?_
    rintro e w' ⟨rfl, rfl⟩
    go_wp2_with fail
    go_ret2
    exact ⟨rfl, hM⟩
  cases d3
  · clear hB
    go_enter Try.func6, Try.ntmps6
    go_wp2_with fail
    generalize hWW : w.alloc (.cells #[.int .i64 c.r0, .int .i64 c.r1, .int .i64 c.r2, .int .i64 c.r3, .int .i64 c.r4, .int .i64 c.r5, .int .i64 c.or, .int .i64 c.lv, .int .i64 c.vo, .int .i64 c.ids, .int .i64 c.rd, .int .i64 c.st, .int .i64 c.op, .int .i64 c.ac, .int .i64 c.wi] 25) = W at z0 z11 z13 z14 hM ⊢
    refine (k0 _).mono ?_
    rintro e w' ⟨rfl, rfl⟩
    go_wp2_with fail
    refine (k1 _).mono ?_
    rintro e w' ⟨rfl, rfl⟩
    go_wp2_with fail
    refine (k2 _).mono ?_
    rintro e w' ⟨rfl, rfl⟩
    go_wp2_with fail
    refine (k3 _).mono ?_
    rintro e w' ⟨rfl, rfl⟩
    go_wp2_with fail
    go_ret2
    exact ⟨rfl, hM⟩
  · cases hB
theorem new_ok (c : Cf) (hB : newB c = true) (w : World) :
    Calls Try.prog 6 #[.agg (cfA c)] w fun e w' => ∃ b, e = .returned (.tuple #[.pointer (some ⟨b, 0, none⟩), .int .i64 0]) ∧ Qt w w' ∧ MsAt w' b (newM c) ∧ w.heap.size ≤ b := by
  have hZ : (w.alloc (.cells (cfA c) 25)).heap[w.heap.size]? = some (.cells (cfA c) 25 (0, 0)) := heap_new w _
  have hM : Qt w (w.alloc (.cells (cfA c) 25)) := (Mv.refl w _).alloc _
  have z0 := cell_of hZ 0
  have z11 := cell_of hZ 11
  have z13 := cell_of hZ 13
  have z14 := cell_of hZ 14
  unfold newB at hB
  unfold cfA at *
  simp only [Bool.and_eq_true] at hB
  obtain ⟨⟨⟨e0, e1⟩, e2⟩, e3⟩ := hB
  have k0 := fits_b e0
  have k1 := fits_b e1
  have k2 := fits_b e2
  have k3 := fits_b e3
  go_enter Try.func6, Try.ntmps6
  go_wp2_with fail
  generalize hWW : w.alloc (.cells #[.int .i64 c.r0, .int .i64 c.r1, .int .i64 c.r2, .int .i64 c.r3, .int .i64 c.r4, .int .i64 c.r5, .int .i64 c.or, .int .i64 c.lv, .int .i64 c.vo, .int .i64 c.ids, .int .i64 c.rd, .int .i64 c.st, .int .i64 c.op, .int .i64 c.ac, .int .i64 c.wi] 25) = W at z0 z11 z13 z14 hM ⊢
  refine (k0 _).mono ?_
  rintro e w' ⟨rfl, rfl⟩
  go_wp2_with fail
  refine (k1 _).mono ?_
  rintro e w' ⟨rfl, rfl⟩
  go_wp2_with fail
  refine (k2 _).mono ?_
  rintro e w' ⟨rfl, rfl⟩
  go_wp2_with fail
  refine (k3 _).mono ?_
  rintro e w' ⟨rfl, rfl⟩
  go_wp2_with fail
  go_ret2
  exact ⟨_, rfl, hM.alloc _, heap_new w' _, hM.size⟩
theorem plain_any (w : World) : Calls Try.prog 8 #[] w fun e w' => e = .returned (.agg (cfA ⟨2, 0, 0, 0, 0, 0, 0, 0, 0, 0, 0, 1, 0, 3, 10⟩)) ∧ Qt w w' := by
  go_enter Try.func8, Try.ntmps8
  go_wp2
  refine bodyPost_ret (results_cell_row rfl _ _ w.heap.size 25 (cfA ⟨2, 0, 0, 0, 0, 0, 0, 0, 0, 0, 0, 1, 0, 3, 10⟩) (0, 0) _ rfl (heap_new w _) Try.underlying25 rfl (by kernel_rfl)) rfl ⟨rfl, (Mv.refl w _).alloc _⟩
end Go.Proofs.Ytdanedibjccldaa

/-
  The walk of the statements' head: what the chapter's examples fix.
-/
namespace Go.Proofs.Ytdanedibjccldaa
open Go.RowKit

def exC : Cf := ⟨2, 0, 0, 0, 0, 0, 0, 0, 0, 0, 0, 1, 0, 3, 10⟩
def x0 : Ms := newM exC
def x1 : Ms := actM x0 1 2
theorem x1_e : actE x0 1 2 = 0 := by decide +kernel
def x2 : Ms := actM x1 1 2
theorem x2_e : actE x1 1 2 = 220 := by decide +kernel
def x3 : Ms := actM x2 1 1
theorem x3_e : actE x2 1 1 = 0 := by decide +kernel
def x4 : Ms := plnM x3 1 1
theorem x4_e : plnE x3 1 1 = 0 := by decide +kernel
def x5 : Ms := plnM x4 1 1
theorem x5_e : plnE x4 1 1 = 222 := by decide +kernel
def x6 : Ms := tckM x5 10
theorem x6_e : tckE x5 10 = 0 := by decide +kernel
def x7 : Ms := tckM x6 9
theorem x7_e : tckE x6 9 = 223 := by decide +kernel
def x8 : Ms := plnM x7 1 (-1)
theorem x8_e : plnE x7 1 (-1) = 0 := by decide +kernel
theorem x0_ok : x0.Ok := newM_ok (by decide +kernel)
theorem x1_ok : x1.Ok := actM_ok x0_ok _ _
theorem x2_ok : x2.Ok := actM_ok x1_ok _ _
theorem x3_ok : x3.Ok := actM_ok x2_ok _ _
theorem x4_ok : x4.Ok := plnM_ok x3_ok _ _
theorem x5_ok : x5.Ok := plnM_ok x4_ok _ _
theorem x6_ok : x6.Ok := tckM_ok x5_ok _
theorem x7_ok : x7.Ok := tckM_ok x6_ok _
theorem x8_ok : x8.Ok := plnM_ok x7_ok _ _
theorem u5p : useP x5 1 = 1 := by decide +kernel
theorem u5n : useN x5 1 = 3 := by decide +kernel
theorem u6n : useN x6 1 = 0 := by decide +kernel
theorem w6 : x6.t / x6.l = 1 := by decide +kernel

set_option maxRecDepth 100000 in
set_option maxHeartbeats 4000000 in
theorem works_any (w : World) : Calls Try.prog 5 #[] w fun e w' => e = .returned (.bool true) ∧ Qt w w' := by
  go_enter Try.func5, Try.ntmps5
  go_wp2_with fail
  refine (plain_any _).mono ?_
  rintro _ w0 ⟨rfl, m0⟩
  go_wp2_with fail
  refine (new_ok exC (by decide +kernel) _).mono ?_
  rintro _ v0 ⟨b, rfl, m1, h0, hb⟩
  replace h0 : MsAt v0 b x0 := h0
  have nb : w.heap.size ≤ b := Nat.le_trans m0.size hb
  have q : Qt w v0 := m0.trans m1 (fun _ e => e.elim)
  clear m0 m1 hb
  go_wp2_with fail
  refine (acts_any h0 x0_ok 1 2).mono ?_
  rintro _ v1 ⟨rfl, m1, h1⟩
  rw [x1_e]
  replace h1 : MsAt v1 b x1 := h1
  replace q : Qt w v1 := q.trans m1 (fun k e => .inr (by rw [e]; exact nb))
  clear m1 h0
  have h0 := h1
  clear h1
  go_wp2_with fail
  refine (acts_any h0 x1_ok 1 2).mono ?_
  rintro _ v2 ⟨rfl, m1, h1⟩
  rw [x2_e]
  replace h1 : MsAt v2 b x2 := h1
  replace q : Qt w v2 := q.trans m1 (fun k e => .inr (by rw [e]; exact nb))
  clear m1 h0
  have h0 := h1
  clear h1
  go_wp2_with fail
  refine (acts_any h0 x2_ok 1 1).mono ?_
  rintro _ v3 ⟨rfl, m1, h1⟩
  rw [x3_e]
  replace h1 : MsAt v3 b x3 := h1
  replace q : Qt w v3 := q.trans m1 (fun k e => .inr (by rw [e]; exact nb))
  clear m1 h0
  have h0 := h1
  clear h1
  go_wp2_with fail
  refine (Plan_any h0 x3_ok 1).mono ?_
  rintro _ v4 ⟨rfl, m1, h1⟩
  rw [x4_e]
  replace h1 : MsAt v4 b x4 := h1
  replace q : Qt w v4 := q.trans m1 (fun k e => .inr (by rw [e]; exact nb))
  clear m1 h0
  have h0 := h1
  clear h1
  go_wp2_with fail
  refine (Plan_any h0 x4_ok 1).mono ?_
  rintro _ v5 ⟨rfl, m1, h1⟩
  rw [x5_e]
  replace h1 : MsAt v5 b x5 := h1
  replace q : Qt w v5 := q.trans m1 (fun k e => .inr (by rw [e]; exact nb))
  clear m1 h0
  have h0 := h1
  clear h1
  go_wp2_with fail
  refine (used_any h0 x5_ok 1).mono ?_
  rintro _ v6 ⟨rfl, m1⟩
  rw [u5p, u5n]
  replace h0 := h0.mv m1 (fun e => e)
  replace q : Qt w v6 := q.trans m1 (fun _ e => e.elim)
  clear m1
  go_wp2_with fail
  refine (tick_any h0 x5_ok 10).mono ?_
  rintro _ v7 ⟨rfl, m1, h1⟩
  rw [x6_e]
  replace h1 : MsAt v7 b x6 := h1
  replace q : Qt w v7 := q.trans m1 (fun k e => .inr (by rw [e]; exact nb))
  clear m1 h0
  have h0 := h1
  clear h1
  go_wp2_with fail
  refine (used_any h0 x6_ok 1).mono ?_
  rintro _ v8 ⟨rfl, m1⟩
  rw [u6n]
  replace h0 := h0.mv m1 (fun e => e)
  replace q : Qt w v8 := q.trans m1 (fun _ e => e.elim)
  clear m1
  go_wp2_with fail
  refine (win_any h0 x6_ok).mono ?_
  rintro _ v9 ⟨rfl, m1⟩
  rw [w6]
  replace h0 := h0.mv m1 (fun e => e)
  replace q : Qt w v9 := q.trans m1 (fun _ e => e.elim)
  clear m1
  go_wp2_with fail
  refine (tick_any h0 x6_ok 9).mono ?_
  rintro _ v10 ⟨rfl, m1, h1⟩
  rw [x7_e]
  replace h1 : MsAt v10 b x7 := h1
  replace q : Qt w v10 := q.trans m1 (fun k e => .inr (by rw [e]; exact nb))
  clear m1 h0
  have h0 := h1
  clear h1
  go_wp2_with fail
  refine (Drop_any h0 x7_ok 1).mono ?_
  rintro _ v11 ⟨rfl, m1, h1⟩
  rw [x8_e]
  replace h1 : MsAt v11 b x8 := h1
  replace q : Qt w v11 := q.trans m1 (fun k e => .inr (by rw [e]; exact nb))
  clear m1 h0
  have h0 := h1
  clear h1
  go_wp2_with fail
  go_ret
  exact ⟨rfl, q⟩
end Go.Proofs.Ytdanedibjccldaa

/-
  The acts that came in.
-/
namespace Go.Proofs.Ytdanedibjccldaa
open Go.RowKit

/-- One act. -/
structure Act4 where
  k : Int
  r : Int
  n : Int
  v : Int
def Act4.ok (a : Act4) : Prop := (-9223372036854775808 ≤ a.k ∧ a.k ≤ 9223372036854775807) ∧ (-9223372036854775808 ≤ a.r ∧ a.r ≤ 9223372036854775807) ∧ (-9223372036854775808 ≤ a.n ∧ a.n ≤ 9223372036854775807) ∧ (-9223372036854775808 ≤ a.v ∧ a.v ≤ 9223372036854775807)
/-- The acts that came in. -/
def Acts (w : World) (la : Option Addr) (ll : Nat) (A : Nat → Act4) : Prop :=
  0 < ll → ∃ b off, la = some ⟨b, off, none⟩ ∧ b < w.heap.size ∧ ∀ j, j < ll → (A j).ok ∧ w.cell? ⟨b, off + j * 4, none⟩ = some (.int .i64 (A j).k) ∧ w.cell? ⟨b, off + j * 4 + 1, none⟩ = some (.int .i64 (A j).r) ∧
    w.cell? ⟨b, off + j * 4 + 2, none⟩ = some (.int .i64 (A j).n) ∧ w.cell? ⟨b, off + j * 4 + 3, none⟩ = some (.int .i64 (A j).v)

end Go.Proofs.Ytdanedibjccldaa

/-
  The document's meter: all that was taken, with its time. Its looks.
-/
namespace Go.Proofs.Ytdanedibjccldaa
open Go.RowKit
set_option linter.unusedVariables false

/-- What was taken: when, how much. -/
structure Tak where
  at_ : Int
  n : Int
def takF (L : List Tak) (j : Nat) : Value := if j % 2 = 0 then .int .i64 (L.getD (j / 2) ⟨0, 0⟩).at_ else .int .i64 (L.getD (j / 2) ⟨0, 0⟩).n
/-- How much of it is in the window q. -/
def sumQ (l q : Int) : List Tak → Int
  | [] => 0
  | a :: r => (if a.at_ / l = q then a.n else 0) + sumQ l q r
def rfA (c : Cf) (now : Int) (pb pc tb tc : Nat) : Array Value := #[.int .i64 c.r0, .int .i64 c.r1, .int .i64 c.r2, .int .i64 c.r3, .int .i64 c.r4, .int .i64 c.r5, .int .i64 c.or, .int .i64 c.lv, .int .i64 c.vo, .int .i64 c.ids, .int .i64 c.rd,
  .int .i64 c.st, .int .i64 c.op, .int .i64 c.ac, .int .i64 c.wi, .int .i64 now, .slice (some ⟨pb, 0, none⟩) (c.r0.toNat + 1) pc, .slice (some ⟨tb, 0, none⟩) (c.r0.toNat + 1) tc]
/-- What lies where. -/
structure Rp where
  R : Nat
  pb : Nat
  pc : Nat
  tb : Nat
  tc : Nat
  sl : Nat → Value
  tk : Nat → List Tak
/-- The document's meter, of which m is the plain one. -/
structure RfAt (w : World) (r : Rp) (c : Cf) (m : Ms) (M : Nat) : Prop where
  blk : w.heap[r.R]? = some (.cells (rfA c m.t r.pb r.pc r.tb r.tc) 55 (0, 0))
  pl : Row w 3 1 (.slice (some ⟨r.pb, 0, none⟩) (c.r0.toNat + 1) r.pc) (c.r0.toNat + 1) (fun j => .int .i64 (if j = 0 then 0 else m.p (j - 1)))
  ta : Row w 57 1 (.slice (some ⟨r.tb, 0, none⟩) (c.r0.toNat + 1) r.tc) (c.r0.toNat + 1) r.sl
  ls : ∀ j, j ≤ c.r0.toNat → Row w 59 2 (r.sl j) (r.tk j).length (takF (r.tk j))
  ap : ∀ j k b, j ≤ c.r0.toNat → k ≤ c.r0.toNat → (r.sl j).ownBlock = some b → (r.sl k).ownBlock = some b → j = k
  sm : ∀ j, j < c.r0.toNat → sumQ m.l (m.t / m.l) (r.tk (j + 1)) = m.n j
  le : ∀ j x, j ≤ c.r0.toNat → x ∈ r.tk j → 0 ≤ x.at_ ∧ x.at_ ≤ m.t ∧ 0 ≤ x.n
  ec : m.c = c.r0
  es : m.s = c.st
  ea : m.a = c.ac
  el : m.l = c.wi
  rb : c.r0 ≤ 8
  rl : 1 ≤ c.r0
  ln : ∀ j, j ≤ c.r0.toNat → (r.tk j).length ≤ M
/-- Its blocks. -/
def RFt (r : Rp) (n : Nat) (k : Nat) : Prop := k = r.R ∨ k = r.pb ∨ k = r.tb ∨ ∃ j, j ≤ n ∧ (r.sl j).ownBlock = some k
theorem RfAt.lt {w : World} {r : Rp} {c : Cf} {m : Ms} {M : Nat} (h : RfAt w r c m M) {k : Nat} (hk : RFt r c.r0.toNat k) : k < w.heap.size := by
  rcases hk with rfl | rfl | rfl | ⟨j, hj, hb⟩
  · exact lt_of h.blk
  · exact h.pl.lt _ rfl
  · exact h.ta.lt _ rfl
  · exact (h.ls j hj).lt _ hb
theorem RfAt.mv {w w' : World} {r : Rp} {c : Cf} {m : Ms} {M : Nat} {F : Nat → Prop} (h : RfAt w r c m M) (k : Mv w w' F) (hF : ∀ x, RFt r c.r0.toNat x → ¬ F x) : RfAt w' r c m M :=
  ⟨(k.block _ (lt_of h.blk) (hF _ (.inl rfl))).trans h.blk, k.row h.pl (fun x hx => hF x (.inr (.inl (by simp [Value.ownBlock] at hx; exact hx.symm)))),
    k.row h.ta (fun x hx => hF x (.inr (.inr (.inl (by simp [Value.ownBlock] at hx; exact hx.symm))))), fun j hj => k.row (h.ls j hj) (fun x hx => hF x (.inr (.inr (.inr ⟨j, hj, hx⟩)))),
    h.ap, h.sm, h.le, h.ec, h.es, h.ea, h.el, h.rb, h.rl, h.ln⟩
theorem RfAt.qt {w w' : World} {r : Rp} {c : Cf} {m : Ms} {M : Nat} (h : RfAt w r c m M) (k : Qt w w') : RfAt w' r c m M := h.mv k (fun _ _ e => e)
theorem RfAt.cell {w : World} {r : Rp} {c : Cf} {m : Ms} {M : Nat} (h : RfAt w r c m M) (j : Nat) : w.cell? ⟨r.R, j, none⟩ = (rfA c m.t r.pb r.pc r.tb r.tc)[j]? := cell_of h.blk j

theorem is_any {w : World} {r : Rp} {c : Cf} {m : Ms} {M : Nat} (h : RfAt w r c m M) (x : Int) :
    Calls Try.prog 22 #[.pointer (some ⟨r.R, 0, none⟩), .int .i64 x] w fun e w' => e = .returned (.bool (isB m x)) ∧ w' = w := by
  have c0 : w.cell? ⟨r.R, 0, none⟩ = some (.int .i64 m.c) := by rw [h.ec]; exact h.cell 0
  by_cases h1 : 1 ≤ x
  · by_cases h2 : x ≤ m.c
    · have hE : isB m x = true := isB_iff.2 ⟨h1, h2⟩
      rw [hE]; clear hE
      go_enter Try.func22, Try.ntmps22
      go_wp2
      go_ret
      exact ⟨rfl, rfl⟩
    · have hE : isB m x = false := by unfold isB; simp; omega
      rw [hE]; clear hE
      go_enter Try.func22, Try.ntmps22
      go_wp2
      go_ret
      exact ⟨rfl, rfl⟩
  · have hE : isB m x = false := by unfold isB; simp; omega
    rw [hE]; clear hE
    go_enter Try.func22, Try.ntmps22
    go_wp2
    go_ret
    exact ⟨rfl, rfl⟩
theorem rwin_any {w : World} {r : Rp} {c : Cf} {m : Ms} {M : Nat} (h : RfAt w r c m M) (ok : m.Ok) :
    Calls Try.prog 26 #[.pointer (some ⟨r.R, 0, none⟩)] w fun e w' => e = .returned (.int .i64 (m.t / m.l)) ∧ Qt w w' := by
  have c14 : w.cell? ⟨r.R, 14, none⟩ = some (.int .i64 m.l) := by rw [h.el]; exact h.cell 14
  have c15 : w.cell? ⟨r.R, 15, none⟩ = some (.int .i64 m.t) := h.cell 15
  obtain ⟨_, _, _, _, _, _, l1, l2, t1, t2, _, _, _, _⟩ := ok
  go_enter Try.func26, Try.ntmps26
  go_wp2_with fail
  go_quiet (fail)
  go_wp2_with fail
  go_ret
  exact ⟨rfl, mv_drewN _ _ _⟩
theorem rtick_no {w : World} {r : Rp} {c : Cf} {m : Ms} {M : Nat} (h : RfAt w r c m M) (t : Int) (hf : t < m.t ∨ 1000000000000000 < t) :
    Calls Try.prog 16 #[.pointer (some ⟨r.R, 0, none⟩), .int .i64 t] w fun e w' => e = .returned (.int .i64 223) ∧ Qt w w' := by
  have c15 : w.cell? ⟨r.R, 15, none⟩ = some (.int .i64 m.t) := h.cell 15
  by_cases h1 : t < m.t
  · go_enter Try.func16, Try.ntmps16
    go_wp2_with fail
    go_ret
    exact ⟨rfl, Mv.refl _ _⟩
  · have h2 : 1000000000000000 < t := by omega
    go_enter Try.func16, Try.ntmps16
    go_wp2_with fail
    go_ret
    exact ⟨rfl, Mv.refl _ _⟩
theorem rtick_ok {w : World} {r : Rp} {c : Cf} {m : Ms} {M : Nat} (h : RfAt w r c m M) (t : Int) (h1 : m.t ≤ t) (h2 : t ≤ 1000000000000000) :
    Calls Try.prog 16 #[.pointer (some ⟨r.R, 0, none⟩), .int .i64 t] w fun e w' => e = .returned (.int .i64 0) ∧ Mv w w' (fun k => k = r.R) ∧ w'.heap[r.R]? = some (.cells (rfA c t r.pb r.pc r.tb r.tc) 55 (0, 0)) := by
  have c15 : w.cell? ⟨r.R, 15, none⟩ = some (.int .i64 m.t) := h.cell 15
  have f15 := frozen_of h.blk 15
  go_enter Try.func16, Try.ntmps16
  go_wp2_with fail
  go_ret
  exact ⟨rfl, (Mv.refl w (fun k => k = r.R)).setCell (.inl rfl) _, setCell_of h.blk 15 _⟩
end Go.Proofs.Ytdanedibjccldaa

/-
  The document's Used.
-/
namespace Go.Proofs.Ytdanedibjccldaa
open Go.RowKit
set_option linter.unusedVariables false

theorem sumQ_app (l q : Int) : ∀ (a b : List Tak), sumQ l q (a ++ b) = sumQ l q a + sumQ l q b
  | [], b => by simp [sumQ]
  | x :: a, b => by simp only [List.cons_append, sumQ]; rw [sumQ_app l q a b]; omega
theorem sumQ_nonneg (l q : Int) : ∀ (a : List Tak), (∀ x ∈ a, 0 ≤ x.n) → 0 ≤ sumQ l q a
  | [], _ => Int.le_refl 0
  | x :: a, h => by
    have h1 := sumQ_nonneg l q a (fun y hy => h y (by simp [hy]))
    have h2 := h x (by simp)
    simp only [sumQ]
    split <;> omega
theorem sumQ_one (l q : Int) (x : Tak) : sumQ l q [x] = if x.at_ / l = q then x.n else 0 := by simp [sumQ]
theorem take_succ {L : List Tak} {i : Nat} (h : i < L.length) : L.take (i + 1) = L.take i ++ [L.getD i ⟨0, 0⟩] := by
  rw [List.take_add_one]
  simp [List.getD, List.getElem?_eq_getElem h]
theorem getD_mem {L : List Tak} {i : Nat} (h : i < L.length) : L.getD i ⟨0, 0⟩ ∈ L := by
  simp [List.getD, List.getElem?_eq_getElem h]
theorem takF_at (L : List Tak) (i : Nat) : takF L (i * 2) = .int .i64 (L.getD i ⟨0, 0⟩).at_ := by
  unfold takF; rw [if_pos (by omega), show i * 2 / 2 = i by omega]
theorem takF_n (L : List Tak) (i : Nat) : takF L (i * 2 + 1) = .int .i64 (L.getD i ⟨0, 0⟩).n := by
  unfold takF; rw [if_neg (by omega), show (i * 2 + 1) / 2 = i by omega]

theorem rused_no {w : World} {r : Rp} {c : Cf} {m : Ms} {M : Nat} (h : RfAt w r c m M) (x : Int) (hB : isB m x = false) :
    Calls Try.prog 23 #[.pointer (some ⟨r.R, 0, none⟩), .int .i64 x] w fun e w' => e = .returned (.tuple #[.int .i64 0, .int .i64 0]) ∧ Qt w w' := by
  have cH := is_any h x
  rw [hB] at cH
  go_enter Try.func23, Try.ntmps23
  go_wp2_with fail
  refine cH.mono ?_
  rintro e w' ⟨rfl, rfl⟩
  go_wp2_with fail
  go_ret2
  exact ⟨rfl, Mv.refl _ _⟩

theorem RfAt.lk {w : World} {r : Rp} {c : Cf} {m : Ms} {M i len cap : Nat} {ao : Option Addr} (h : RfAt w r c m M) (hi : i < c.r0.toNat) (e : r.sl (i + 1) = .slice ao len cap) :
    w.cell? ⟨r.R, 14, none⟩ = some (.int .i64 m.l) ∧ w.cell? ⟨r.R, 15, none⟩ = some (.int .i64 m.t) ∧ w.cell? ⟨r.R, 16, none⟩ = some (.slice (some ⟨r.pb, 0, none⟩) (c.r0.toNat + 1) r.pc) ∧
    w.cell? ⟨r.R, 17, none⟩ = some (.slice (some ⟨r.tb, 0, none⟩) (c.r0.toNat + 1) r.tc) ∧ w.cell? ⟨r.pb, i + 1, none⟩ = some (.int .i64 (m.p i)) ∧ w.cell? ⟨r.tb, i + 1, none⟩ = some (.slice ao len cap) := by
  refine ⟨by rw [h.el]; exact h.cell 14, h.cell 15, h.cell 16, h.cell 17, h.pl.cell (j := i + 1) (by omega), ?_⟩
  rw [← e]
  exact h.ta.cell (j := i + 1) (by omega)

set_option maxRecDepth 100000 in
theorem rused_yes {w : World} {r : Rp} {c : Cf} {m : Ms} {M : Nat} (h : RfAt w r c m M) (ok : m.Ok) (hM : M ≤ 4398046511104) (i : Nat) (hi : i < 8) (hB : isB m ((i : Int) + 1) = true) :
    Calls Try.prog 23 #[.pointer (some ⟨r.R, 0, none⟩), .int .i64 ((i : Int) + 1)] w fun e w' => e = .returned (.tuple #[.int .i64 (m.p i), .int .i64 (m.n i)]) ∧ Qt w w' := by
  have hi' : i < c.r0.toNat := by have := (isB_iff.1 hB).2; rw [h.ec] at this; omega
  have hL := h.ls (i + 1) (by omega)
  have hS := h.sm i hi'
  have hLe : ∀ x, x ∈ r.tk (i + 1) → 0 ≤ x.at_ ∧ x.at_ ≤ m.t ∧ 0 ≤ x.n := fun x hx => h.le (i + 1) x (by omega) hx
  obtain ⟨ao, cap, e, hpos, _⟩ := hL.form
  rw [e] at hL
  have cH := is_any h ((i : Int) + 1)
  rw [hB] at cH
  have hlk : ∀ v, Qt w v → _ := fun v q => (h.qt q).lk hi' e
  generalize hTT : r.tk (i + 1) = L at *
  have hnn : i + 1 < c.r0.toNat + 1 := by omega
  have hlen : (L.length : Int) ≤ 9223372036854775807 := by
    have := h.ln (i + 1) (by omega)
    rw [hTT] at this
    omega
  clear h
  generalize c.r0.toNat + 1 = nn at *
  have hb1 : (i : Int) + 1 < (nn : Int) := by omega
  have n2 := ok.n2 i
  have a2 := ok.a2
  obtain ⟨_, _, _, _, _, _, l1, l2, t1, t2, _, _, _, _⟩ := ok
  generalize r.R = R at *
  generalize r.pb = pb at *
  generalize r.tb = tb at *
  generalize m.l = l at *
  generalize m.t = t at *
  go_enter Try.func23, Try.ntmps23
  go_wp2_with fail
  refine cH.mono ?_
  rintro e w' ⟨rfl, rfl⟩
  go_wp2_with fail
  go_loopw [7, 8] (fun v7 v8 wr => ∃ k : Nat, k ≤ L.length ∧ v8 = .int .i64 k ∧ v7 = .int .i64 (sumQ l (t / l) (L.take k)) ∧ Qt w' wr) (fun _ v8 _ => L.length - (intOf v8).toNat)
  case atStart => exact ⟨0, by omega, rfl, rfl, Mv.refl _ _⟩
  case round =>
    obtain ⟨k, hk, rfl, rfl, hq⟩ := hrel
    obtain ⟨c14, c15, c16, c17, cp, ct⟩ := hlk wr hq
    by_cases hlt : k < L.length
    · obtain ⟨g, rfl⟩ := hpos (by omega)
      have r0 : wr.cell? ⟨g, k * 2, none⟩ = some (.int .i64 (L.getD k ⟨0, 0⟩).at_) := by
        rw [← takF_at]; exact (hq.row hL (fun _ _ e => e)).cell (by omega)
      have r1 : wr.cell? ⟨g, k * 2 + 1, none⟩ = some (.int .i64 (L.getD k ⟨0, 0⟩).n) := by
        rw [← takF_n]; exact (hq.row hL (fun _ _ e => e)).cell (by omega)
      have hm := hLe _ (getD_mem hlt)
      have e1 := take_succ hlt
      have s0 : 0 ≤ sumQ l (t / l) (L.take k) := sumQ_nonneg _ _ _ (fun x hx => (hLe x (List.mem_of_mem_take hx)).2.2)
      have s1 : sumQ l (t / l) (L.take k) + sumQ l (t / l) [L.getD k ⟨0, 0⟩] ≤ 1000000 := by
        have e2 : L = L.take (k + 1) ++ L.drop (k + 1) := (List.take_append_drop _ _).symm
        have : sumQ l (t / l) (L.take (k + 1)) + sumQ l (t / l) (L.drop (k + 1)) = sumQ l (t / l) L := by rw [← sumQ_app, ← e2]
        have h0 : 0 ≤ sumQ l (t / l) (L.drop (k + 1)) := sumQ_nonneg _ _ _ (fun x hx => (hLe x (List.mem_of_mem_drop hx)).2.2)
        rw [e1, sumQ_app] at this
        omega
      rw [sumQ_one] at s1
      have hnext : sumQ l (t / l) (L.take (k + 1)) = sumQ l (t / l) (L.take k) + (if (L.getD k ⟨0, 0⟩).at_ / l = t / l then (L.getD k ⟨0, 0⟩).n else 0) := by rw [e1, sumQ_app, sumQ_one]
      generalize (L.getD k ⟨0, 0⟩).at_ = at1 at *
      generalize (L.getD k ⟨0, 0⟩).n = n1 at *
      generalize hSS : sumQ l (t / l) (L.take k) = S at *
      obtain ⟨m1, m2, m3⟩ := hm
      have hb : (k : Int) < (L.length : Int) := by omega
      clear e1 hSS hLe hS hpos hlk hL
      by_cases hw : at1 / l = t / l
      · rw [if_pos hw] at s1 hnext
        go_wp2_with fail
        go_quiet (fail)
        generalize hWW : wr.drewN _ = W2
        replace hq : Qt w' W2 := by rw [← hWW]; exact hq.drewN _
        have q2 : ∀ a, W2.cell? a = wr.cell? a := by intro a; rw [← hWW]; rfl
        rw [← q2] at c17 ct r1
        clear hWW c14 c15 c16 cp r0 q2
        go_wp2_with fail
        go_round
        case rel => exact ⟨k + 1, by omega, by go_num, by rw [hnext], hq⟩
        case measure => simp [intOf]; omega
      · rw [if_neg hw] at s1 hnext
        go_wp2_with fail
        go_quiet (fail)
        generalize hWW : wr.drewN _ = W2
        replace hq : Qt w' W2 := by rw [← hWW]; exact hq.drewN _
        clear hWW c14 c15 c16 c17 cp ct r0 r1
        go_wp2_with fail
        go_round
        case rel => exact ⟨k + 1, by omega, by go_num, by rw [hnext]; simp, hq⟩
        case measure => simp [intOf]; omega
    · have hb : ¬ (k : Int) < (L.length : Int) := by omega
      have ek : k = L.length := by omega
      rw [ek, List.take_length, hS]
      rw [ek] at hb
      clear hlk hpos hL hLe hS
      go_wp2_with fail
      go_ret2
      exact ⟨rfl, hq⟩
theorem rused_any {w : World} {r : Rp} {c : Cf} {m : Ms} {M : Nat} (h : RfAt w r c m M) (ok : m.Ok) (hM : M ≤ 4398046511104) (x : Int) :
    Calls Try.prog 23 #[.pointer (some ⟨r.R, 0, none⟩), .int .i64 x] w fun e w' => e = .returned (.tuple #[.int .i64 (useP m x), .int .i64 (useN m x)]) ∧ Qt w w' := by
  by_cases hB : isB m x = true
  · unfold useP useN
    rw [if_pos hB, if_pos hB]
    obtain ⟨i, hi, rfl, _⟩ := client ok hB
    rw [toNat1]
    exact rused_yes h ok hM i hi hB
  · unfold useP useN
    rw [if_neg hB, if_neg hB]
    exact rused_no h x (by simpa using hB)
end Go.Proofs.Ytdanedibjccldaa
