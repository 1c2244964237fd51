import Derived.Test.YtdanedibjccldaaM0
import Derived.Deep.MidRow
/-
  Tick: a new window begins where one does.
-/
namespace Go.Proofs.Ytdanedibjccldaa
open Go.RowKit

def cnA (p n : Nat → Int) : Array Value := #[.int .i64 (p 0), .int .i64 (n 0), .int .i64 (p 1), .int .i64 (n 1), .int .i64 (p 2), .int .i64 (n 2), .int .i64 (p 3), .int .i64 (n 3),
  .int .i64 (p 4), .int .i64 (n 4), .int .i64 (p 5), .int .i64 (n 5), .int .i64 (p 6), .int .i64 (n 6), .int .i64 (p 7), .int .i64 (n 7)]
theorem cnA_all (p n : Nat → Int) : (cnA p n).all (·.oneCell') = true := by
  simp [cnA, Value.oneCell']
theorem cnA_size (p n : Nat → Int) : (cnA p n).size = 16 := rfl
theorem info49 : (Try.prog.info? 49).map (·.size) = some 16 := by kernel_rfl
theorem cnA_n (p n : Nat → Int) {i : Nat} (hi : i < 8) : (cnA p n)[i * 2 + 1]? = some (.int .i64 (n i)) :=
  eight (P := fun i => (cnA p n)[i * 2 + 1]? = some (.int .i64 (n i))) hi rfl rfl rfl rfl rfl rfl rfl rfl
/-- The first i of them have no actions. -/
def cutN (n : Nat → Int) (i : Nat) : Nat → Int := fun j => if j < i then 0 else n j
theorem cnA_cut (p n : Nat → Int) {i : Nat} (hi : i < 8) : (cnA p (cutN n i)).setIfInBounds (i * 2 + 1) (.int .i64 0) = cnA p (cutN n (i + 1)) :=
  eight (P := fun i => (cnA p (cutN n i)).setIfInBounds (i * 2 + 1) (.int .i64 0) = cnA p (cutN n (i + 1))) hi rfl rfl rfl rfl rfl rfl rfl rfl
def cn0 : Array Value := #[.int .i64 0, .int .i64 0, .int .i64 0, .int .i64 0, .int .i64 0, .int .i64 0, .int .i64 0, .int .i64 0, .int .i64 0, .int .i64 0, .int .i64 0, .int .i64 0, .int .i64 0, .int .i64 0, .int .i64 0, .int .i64 0]

theorem Mv.setRow {w w' : World} {F : Nat → Prop} (h : Mv w w' F) {g : Nat} (ha : F g ∨ w.heap.size ≤ g) (cs : Array Value) : Mv w (w'.setRow g cs) F :=
  h.trans (F' := fun b => b = g) ⟨rfl, rfl, rfl, by simp, fun b _ hn => setRow_other _ _ _ _ hn⟩ (fun b e => by cases e; exact ha)
theorem Mv.setCells {F : Nat → Prop} {b : Nat} : ∀ (l : List Value) (o : Nat) {w w' : World}, Mv w w' F → (F b ∨ w.heap.size ≤ b) → Mv w (w'.setCells b o l) F
  | [], _, _, _, h, _ => h
  | v :: r, o, _, _, h, hb => Mv.setCells r (o + 1) (h.setCell (a := ⟨b, o, none⟩) hb v) hb
def setL (a : Array Value) (o : Nat) : List Value → Array Value
  | [] => a
  | v :: r => setL (a.setIfInBounds o v) (o + 1) r
termination_by l => l.length
theorem setCells_of {b : Nat} {t : TypeId} {fz : Nat × Nat} : ∀ (l : List Value) (o : Nat) {w : World} {a : Array Value}, w.heap[b]? = some (.cells a t fz) → (w.setCells b o l).heap[b]? = some (.cells (setL a o l) t fz)
  | [], _, _, _, h => by rw [setL]; exact h
  | v :: r, o, _, _, h => by rw [setL]; exact setCells_of r (o + 1) (setCell_of h o v)
theorem setL_ms (m : Ms) : setL (msA m) 5 (cnA m.p (fun _ => 0)).toList = msA { m with n := fun _ => 0 } := by
  simp [setL, cnA, msA]

/-- Both boxes of withoutActs. -/
structure Wo (w W : World) (B : Nat) (p n : Nat → Int) : Prop where
  a : W.heap[B]? = some (.cells (cnA p n) 49 (0, 0))
  r : W.heap[B + 1]? = some (.cells cn0 49 (0, 0))
  mv : Qt w W
  nb : w.heap.size ≤ B
set_option maxRecDepth 100000 in
theorem without_any (p n : Nat → Int) (w : World) :
    Calls Try.prog 25 #[.agg (cnA p n)] w fun e w' => e = .returned (.agg (cnA p (fun _ => 0))) ∧ Qt w w' := by
  have hX : Wo w ((w.alloc (.cells (cnA p n) 49)).alloc (.cells cn0 49)) w.heap.size p (cutN n 0) := by
    refine ⟨?_, ?_, ((Mv.refl w _).alloc _).alloc _, Nat.le_refl _⟩
    · rw [Below.heap_alloc _ _ _ (by simp)]; exact heap_new w _
    · have := heap_new (w.alloc (.cells (cnA p n) 49)) (.cells cn0 49)
      rwa [size_alloc] at this
  unfold cn0 at hX
  go_enter Try.func25, Try.ntmps25
  go_upto_region 1 with fail
  generalize hWW : (w.alloc (.cells (cnA p n) 49)).alloc _ = W at hX ⊢
  generalize hBB : w.heap.size = B at hX ⊢
  clear hWW hBB
  go_wp2_with fail
  go_loopw [3, 4] (fun _ v4 wr => ∃ i : Nat, i ≤ 8 ∧ v4 = .int .i64 i ∧ Wo w wr B p (cutN n i)) (fun _ v4 _ => 8 - (intOf v4).toNat)
  case atStart => exact ⟨0, by omega, rfl, hX⟩
  case round =>
    obtain ⟨i, hi, rfl, hW⟩ := hrel
    by_cases hlt : i < 8
    · have hb : (i : Int) < 8 := by omega
      have c1 : wr.cell? ⟨B, i * 2 + 1, none⟩ = some (.int .i64 (cutN n i i)) := (cell_of hW.a _).trans (cnA_n p _ hlt)
      have f1 := frozen_of hW.a (i * 2 + 1)
      have hN : Wo w (wr.setCell ⟨B, i * 2 + 1, none⟩ (.int .i64 0)) B p (cutN n (i + 1)) := by
        refine ⟨?_, ?_, hW.mv.setCell (.inr hW.nb) _, hW.nb⟩
        · rw [← cnA_cut p n hlt]; exact setCell_of hW.a _ _
        · rw [Below.heap_setCell _ _ _ _ (by simp)]; exact hW.r
      go_wp2_with fail
      go_round
      case rel => exact ⟨i + 1, by omega, by go_num, hN⟩
      case measure => simp [intOf]; omega
    · have hb : ¬ (i : Int) < 8 := by omega
      have e8 : i = 8 := by omega
      have hA : wr.heap[B]? = some (.cells (cnA p (fun _ => 0)) 49 (0, 0)) := by
        rw [hW.a, e8]; rfl
      go_wp2_with (first
        | refine wpList_load_row rfl 49 (.tmp 1) rfl B rfl 49 (cnA p (fun _ => 0)) (0, 0) _ hA Try.underlying49 rfl info49 ?_
        | refine wpList_store_row rfl 49 (.tmp 2) (.tmp 11) rfl (B + 1) (cnA p (fun _ => 0)) rfl rfl 49 cn0 hW.r info49 rfl (cnA_all _ _) ?_)
      refine bodyPost_ret (results_cell_row rfl _ _ (B + 1) 49 (cnA p (fun _ => 0)) (0, 0) _ rfl (setRow_heap _ _ _ _ _ _ hW.r) Try.underlying49 rfl info49) rfl ⟨rfl, ?_⟩
      exact hW.mv.setRow (.inr (by have := hW.nb; omega)) _

/-- What Tick tells, and what is there then. -/
def tckE (m : Ms) (t : Int) : Int := if t < m.t ∨ 1000000000000000 < t then 223 else 0
def tckM (m : Ms) (t : Int) : Ms := if tckE m t = 0 then { m with t := t, n := if t / m.l = m.t / m.l then m.n else fun _ => 0 } else m
theorem tckM_ok {m : Ms} (ok : m.Ok) (t : Int) : (tckM m t).Ok := by
  unfold tckM
  by_cases hE : tckE m t = 0
  · rw [if_pos hE]
    unfold tckE at hE
    by_cases h1 : t < m.t ∨ 1000000000000000 < t
    · rw [if_pos h1] at hE; cases hE
    · have := ok.t1
      have := ok.a1
      refine ⟨ok.c1, ok.c2, ok.s1, ok.s2, ok.a1, ok.a2, ok.l1, ok.l2, by show 0 ≤ t; omega, by show t ≤ _; omega, ok.p1, ok.p2, fun i => ?_, fun i => ?_⟩
      · show 0 ≤ (if t / m.l = m.t / m.l then m.n else fun _ => 0) i
        split
        · exact ok.n1 i
        · exact Int.le_refl 0
      · show (if t / m.l = m.t / m.l then m.n else fun _ => 0) i ≤ m.a
        split
        · exact ok.n2 i
        · exact ok.a1
  · rw [if_neg hE]; exact ok
theorem tick_no {w : World} {b : Nat} {m : Ms} (h : MsAt w b m) (t : Int) (hf : inB t m.t 1000000000000000 = false) :
    Calls Try.prog 15 #[.pointer (some ⟨b, 0, none⟩), .int .i64 t] w fun e w' => e = .returned (.int .i64 223) ∧ Qt w w' := by
  have c4 := h.c4
  go_enter Try.func15, Try.ntmps15
  go_wp2_with fail
  refine (fits_b hf _).mono ?_
  rintro e w' ⟨rfl, rfl⟩
  go_wp2_with fail
  go_ret
  exact ⟨rfl, Mv.refl _ _⟩
theorem ms_range {w : World} {b : Nat} {m : Ms} (h : MsAt w b m) : w.rangeAt b 5 (cnA m.p m.n).toList := by
  intro j v hj
  rw [cell_of h]
  have hl : j < 16 := by
    have := (List.getElem?_eq_some_iff.1 hj).1
    have e : (cnA m.p m.n).toList.length = 16 := rfl
    omega
  match j, hl, hj with
  | 0, _, hj | 1, _, hj | 2, _, hj | 3, _, hj | 4, _, hj | 5, _, hj | 6, _, hj | 7, _, hj | 8, _, hj | 9, _, hj | 10, _, hj | 11, _, hj | 12, _, hj | 13, _, hj | 14, _, hj | 15, _, hj => exact hj
theorem ms_there {w : World} {b : Nat} {m : Ms} (h : MsAt w b m) (p n : Nat → Int) : w.there b 5 (cnA p n).size := by
  intro j hj
  refine ⟨?_, frozen_of h _⟩
  rw [cell_of h]
  have : 5 + j < (msA m).size := by
    have e : (msA m).size = 21 := rfl
    have e' : (cnA p n).size = 16 := rfl
    omega
  simp [this]
theorem tick_same {w : World} {b : Nat} {m : Ms} (h : MsAt w b m) (ok : m.Ok) (t : Int) (hf : inB t m.t 1000000000000000 = true) (ho : ({ m with t := t } : Ms).Ok) (he : t / m.l = m.t / m.l) :
    Calls Try.prog 15 #[.pointer (some ⟨b, 0, none⟩), .int .i64 t] w fun e w' => e = .returned (.int .i64 0) ∧ At b w w' ∧ MsAt w' b { m with t := t } := by
  have c4 := h.c4
  go_enter Try.func15, Try.ntmps15
  go_wp2_with fail
  refine (fits_b hf _).mono ?_
  rintro e w' ⟨rfl, rfl⟩
  go_wp2_with fail
  refine (win_any h ok).mono ?_
  rintro e w1 ⟨rfl, m1⟩
  clear c4
  have h1 := h.mv m1 (fun e => e)
  have c4 := h1.c4
  have f4 := h1.fz 4
  have h2 := h1.sett t
  go_wp2_with fail
  refine (win_any h2 ho).mono ?_
  rintro e w2 ⟨rfl, m2⟩
  have h3 := h2.mv m2 (fun e => e)
  rw [show ({ m with t := t } : Ms).t / ({ m with t := t } : Ms).l = m.t / m.l from he]
  generalize m.t / m.l = q
  go_wp2_with fail
  go_ret
  exact ⟨rfl, (((m1.mono (F' := fun k => k = b) (fun _ e => e.elim)).setCell (.inl rfl) _).trans m2 (fun _ e => e.elim)), h3⟩
theorem tick_new {w : World} {b : Nat} {m : Ms} (h : MsAt w b m) (ok : m.Ok) (t : Int) (hf : inB t m.t 1000000000000000 = true) (ho : ({ m with t := t } : Ms).Ok) (he : t / m.l ≠ m.t / m.l) :
    Calls Try.prog 15 #[.pointer (some ⟨b, 0, none⟩), .int .i64 t] w fun e w' => e = .returned (.int .i64 0) ∧ At b w w' ∧ MsAt w' b { m with t := t, n := fun _ => 0 } := by
  have c4 := h.c4
  go_enter Try.func15, Try.ntmps15
  go_wp2_with fail
  refine (fits_b hf _).mono ?_
  rintro e w' ⟨rfl, rfl⟩
  go_wp2_with fail
  refine (win_any h ok).mono ?_
  rintro e w1 ⟨rfl, m1⟩
  clear c4
  have h1 := h.mv m1 (fun e => e)
  have c4 := h1.c4
  have f4 := h1.fz 4
  have h2 := h1.sett t
  go_wp2_with fail
  refine (win_any h2 ho).mono ?_
  rintro e w2 ⟨rfl, m2⟩
  have h3 := h2.mv m2 (fun e => e)
  have hq : t / m.l ≠ m.t / m.l := he
  generalize e1 : m.t / m.l = q1 at hq ⊢
  rw [show ({ m with t := t } : Ms).t / ({ m with t := t } : Ms).l = t / m.l from rfl]
  generalize e2 : t / m.l = q2 at hq ⊢
  clear e1 e2 he
  have hL := ms_range h3
  go_wp2_with (refine wpList_load_mid rfl 49 (.tmp 26) rfl b 5 rfl (cnA m.p m.n).toList _ hL Try.underlying49 rfl info49 ?_)
  refine (without_any m.p m.n w2).mono ?_
  rintro e w3 ⟨rfl, m3⟩
  have h4 := h3.mv m3 (fun e => e)
  go_wp2_with (refine wpList_store_mid rfl 49 (.tmp 30) (.tmp 28) rfl b 5 (cnA m.p (fun _ => 0)) rfl rfl (ms_there h4 _ _) info49 (cnA_all _ _) ?_)
  go_ret
  refine ⟨rfl, ?_, ?_⟩
  · exact Mv.setCells _ _ ((((m1.mono (F' := fun k => k = b) (fun _ e => e.elim)).setCell (.inl rfl) _).trans m2 (fun _ e => e.elim)).trans m3 (fun _ e => e.elim)) (.inl rfl)
  · have := setCells_of (cnA m.p (fun _ => 0)).toList 5 h4
    rw [show setL (msA { m with t := t }) 5 (cnA m.p (fun _ => 0)).toList = _ from setL_ms { m with t := t }] at this
    exact this
theorem tick_any {w : World} {b : Nat} {m : Ms} (h : MsAt w b m) (ok : m.Ok) (t : Int) :
    Calls Try.prog 15 #[.pointer (some ⟨b, 0, none⟩), .int .i64 t] w fun e w' => e = .returned (.int .i64 (tckE m t)) ∧ At b w w' ∧ MsAt w' b (tckM m t) := by
  by_cases hf : inB t m.t 1000000000000000 = true
  · have hb := inB_iff.1 hf
    have hE : tckE m t = 0 := by unfold tckE; rw [if_neg (by omega)]
    have := ok.t1
    have ho : ({ m with t := t } : Ms).Ok := ⟨ok.c1, ok.c2, ok.s1, ok.s2, ok.a1, ok.a2, ok.l1, ok.l2, by show 0 ≤ t; omega, hb.2, ok.p1, ok.p2, ok.n1, ok.n2⟩
    unfold tckM
    rw [if_pos hE, hE]
    by_cases he : t / m.l = m.t / m.l
    · rw [if_pos he]
      exact tick_same h ok t hf ho he
    · rw [if_neg he]
      exact tick_new h ok t hf ho he
  · have hf' : inB t m.t 1000000000000000 = false := by simpa using hf
    rw [inB_iff] at hf
    have hE : tckE m t = 223 := by unfold tckE; rw [if_pos (by omega)]
    unfold tckM
    rw [hE, if_neg (by decide)]
    exact (tick_no h t hf').mono fun e w' ⟨h1, h2⟩ => ⟨h1, h2.mono (fun _ e => e.elim), h.mv h2 (fun e => e)⟩
end Go.Proofs.Ytdanedibjccldaa

/-
  New; the chapter's example; the statements' head.
-/
namespace Go.Proofs.Ytdanedibjccldaa
open Go.RowKit

/-- A configuration, as it comes in. -/
structure Cf where
  r0 : Int
  r1 : Int
  r2 : Int
  r3 : Int
  r4 : Int
  r5 : Int
  or : Int
  lv : Int
  vo : Int
  ids : Int
  rd : Int
  st : Int
  op : Int
  ac : Int
  wi : Int
def cfA (c : Cf) : Array Value := #[.int .i64 c.r0, .int .i64 c.r1, .int .i64 c.r2, .int .i64 c.r3, .int .i64 c.r4, .int .i64 c.r5, .int .i64 c.or, .int .i64 c.lv, .int .i64 c.vo, .int .i64 c.ids, .int .i64 c.rd,
  .int .i64 c.st, .int .i64 c.op, .int .i64 c.ac, .int .i64 c.wi]
def newB (c : Cf) : Bool := inB c.r0 1 8 && inB c.st 0 8 && inB c.ac 0 1000000 && inB c.wi 1 1000000000000000
def newM (c : Cf) : Ms := ⟨c.r0, c.st, c.ac, c.wi, 0, fun _ => 0, fun _ => 0⟩
theorem newM_ok {c : Cf} (h : newB c = true) : (newM c).Ok := by
  unfold newB at h
  simp only [Bool.and_eq_true, inB_iff] at h
  obtain ⟨⟨⟨⟨h1, h2⟩, h3, h4⟩, h5, h6⟩, h7, h8⟩ := h
  exact ⟨h1, h2, h3, h4, h5, h6, h7, h8, Int.le_refl 0, by show (0 : Int) ≤ _; decide, fun _ => Int.le_refl 0, fun _ => h3, fun _ => Int.le_refl 0, fun _ => h5⟩
theorem new_no (c : Cf) (hB : newB c = false) (w : World) :
    Calls Try.prog 6 #[.agg (cfA c)] w fun e w' => e = .returned (.tuple #[.pointer none, .int .i64 1]) ∧ Qt w w' := by
  have hZ : (w.alloc (.cells (cfA c) 25)).heap[w.heap.size]? = some (.cells (cfA c) 25 (0, 0)) := heap_new w _
  have hM : Qt w (w.alloc (.cells (cfA c) 25)) := (Mv.refl w _).alloc _
  have z0 := cell_of hZ 0
  have z11 := cell_of hZ 11
  have z13 := cell_of hZ 13
  have z14 := cell_of hZ 14
  unfold newB at hB
  unfold cfA at *
  generalize e0 : inB c.r0 1 8 = d0 at hB
  generalize e1 : inB c.st 0 8 = d1 at hB
  generalize e2 : inB c.ac 0 1000000 = d2 at hB
  generalize e3 : inB c.wi 1 1000000000000000 = d3 at hB
  have k0 := fits_b e0
  have k1 := fits_b e1
  have k2 := fits_b e2
  have k3 := fits_b e3
  cases d0
  · clear hB
    go_enter Try.func6, Try.ntmps6
    go_wp2_with fail
    generalize hWW : w.alloc (.cells #[.int .i64 c.r0, .int .i64 c.r1, .int .i64 c.r2, .int .i64 c.r3, .int .i64 c.r4, .int .i64 c.r5, .int .i64 c.or, .int .i64 c.lv, .int .i64 c.vo, .int .i64 c.ids, .int .i64 c.rd, .int .i64 c.st, .int .i64 c.op, .int .i64 c.ac, .int .i64 c.wi] 25) = W at z0 z11 z13 z14 hM ⊢
    refine (k0 _).mono ?_
    rintro e w' ⟨rfl, rfl⟩
    go_wp2_with fail
    go_ret2
    exact ⟨rfl, hM⟩
  cases d1
  · clear hB
    go_enter Try.func6, Try.ntmps6
    go_wp2_with fail
    generalize hWW : w.alloc (.cells #[.int .i64 c.r0, .int .i64 c.r1, .int .i64 c.r2, .int .i64 c.r3, .int .i64 c.r4, .int .i64 c.r5, .int .i64 c.or, .int .i64 c.lv, .int .i64 c.vo, .int .i64 c.ids, .int .i64 c.rd, .int .i64 c.st, .int .i64 c.op, .int .i64 c.ac, .int .i64 c.wi] 25) = W at z0 z11 z13 z14 hM ⊢
    refine (k0 _).mono ?_
    rintro e w' ⟨rfl, rfl⟩
    go_wp2_with fail
    refine (k1 _).mono ?_
    rintro e w' ⟨rfl, rfl⟩
    go_wp2_with fail
    go_ret2
    exact ⟨rfl, hM⟩
  cases d2
  · clear hB
    go_enter Try.func6, Try.ntmps6
    go_wp2_with fail
    generalize hWW : w.alloc (.cells #[.int .i64 c.r0, .int .i64 c.r1, .int .i64 c.r2, .int .i64 c.r3, .int .i64 c.r4, .int .i64 c.r5, .int .i64 c.or, .int .i64 c.lv, .int .i64 c.vo, .int .i64 c.ids, .int .i64 c.rd, .int .i64 c.st, .int .i64 c.op, .int .i64 c.ac, .int .i64 c.wi] 25) = W at z0 z11 z13 z14 hM ⊢
    refine (k0 _).mono ?_
    rintro e w' ⟨rfl, rfl⟩
    go_wp2_with fail
    refine (k1 _).mono ?_
    rintro e w' ⟨rfl, rfl⟩
    go_wp2_with fail
    refine (k2 _).mono ?_
    rintro e w' ⟨rfl, rfl⟩
    go_wp2_with fail
    go_ret2
    exact ⟨rfl, hM⟩
  cases d3
  · clear hB
    go_enter Try.func6, Try.ntmps6
    go_wp2_with fail
    generalize hWW : w.alloc (.cells #[.int .i64 c.r0, .int .i64 c.r1, .int .i64 c.r2, .int .i64 c.r3, .int .i64 c.r4, .int .i64 c.r5, .int .i64 c.or, .int .i64 c.lv, .int .i64 c.vo, .int .i64 c.ids, .int .i64 c.rd, .int .i64 c.st, .int .i64 c.op, .int .i64 c.ac, .int .i64 c.wi] 25) = W at z0 z11 z13 z14 hM ⊢
    refine (k0 _).mono ?_
    rintro e w' ⟨rfl, rfl⟩
    go_wp2_with fail
    refine (k1 _).mono ?_
    rintro e w' ⟨rfl, rfl⟩
    go_wp2_with fail
    refine (k2 _).mono ?_
    rintro e w' ⟨rfl, rfl⟩
    go_wp2_with fail
    refine (k3 _).mono ?_
    rintro e w' ⟨rfl, rfl⟩
    go_wp2_with fail
    go_ret2
    exact ⟨rfl, hM⟩
  · cases hB
theorem new_ok (c : Cf) (hB : newB c = true) (w : World) :
    Calls Try.prog 6 #[.agg (cfA c)] w fun e w' => ∃ b, e = .returned (.tuple #[.pointer (some ⟨b, 0, none⟩), .int .i64 0]) ∧ Qt w w' ∧ MsAt w' b (newM c) ∧ w.heap.size ≤ b := by
  have hZ : (w.alloc (.cells (cfA c) 25)).heap[w.heap.size]? = some (.cells (cfA c) 25 (0, 0)) := heap_new w _
  have hM : Qt w (w.alloc (.cells (cfA c) 25)) := (Mv.refl w _).alloc _
  have z0 := cell_of hZ 0
  have z11 := cell_of hZ 11
  have z13 := cell_of hZ 13
  have z14 := cell_of hZ 14
  unfold newB at hB
  unfold cfA at *
  simp only [Bool.and_eq_true] at hB
  obtain ⟨⟨⟨e0, e1⟩, e2⟩, e3⟩ := hB
  have k0 := fits_b e0
  have k1 := fits_b e1
  have k2 := fits_b e2
  have k3 := fits_b e3
  go_enter Try.func6, Try.ntmps6
  go_wp2_with fail
  generalize hWW : w.alloc (.cells #[.int .i64 c.r0, .int .i64 c.r1, .int .i64 c.r2, .int .i64 c.r3, .int .i64 c.r4, .int .i64 c.r5, .int .i64 c.or, .int .i64 c.lv, .int .i64 c.vo, .int .i64 c.ids, .int .i64 c.rd, .int .i64 c.st, .int .i64 c.op, .int .i64 c.ac, .int .i64 c.wi] 25) = W at z0 z11 z13 z14 hM ⊢
  refine (k0 _).mono ?_
  rintro e w' ⟨rfl, rfl⟩
  go_wp2_with fail
  refine (k1 _).mono ?_
  rintro e w' ⟨rfl, rfl⟩
  go_wp2_with fail
  refine (k2 _).mono ?_
  rintro e w' ⟨rfl, rfl⟩
  go_wp2_with fail
  refine (k3 _).mono ?_
  rintro e w' ⟨rfl, rfl⟩
  go_wp2_with fail
  go_ret2
  exact ⟨_, rfl, hM.alloc _, heap_new w' _, hM.size⟩
theorem plain_any (w : World) : Calls Try.prog 8 #[] w fun e w' => e = .returned (.agg (cfA ⟨2, 0, 0, 0, 0, 0, 0, 0, 0, 0, 0, 1, 0, 3, 10⟩)) ∧ Qt w w' := by
  go_enter Try.func8, Try.ntmps8
  go_wp2
  refine bodyPost_ret (results_cell_row rfl _ _ w.heap.size 25 (cfA ⟨2, 0, 0, 0, 0, 0, 0, 0, 0, 0, 0, 1, 0, 3, 10⟩) (0, 0) _ rfl (heap_new w _) Try.underlying25 rfl (by kernel_rfl)) rfl ⟨rfl, (Mv.refl w _).alloc _⟩
end Go.Proofs.Ytdanedibjccldaa

/-
  The walk of the statements' head: what the chapter's examples fix.
-/
namespace Go.Proofs.Ytdanedibjccldaa
open Go.RowKit

def exC : Cf := ⟨2, 0, 0, 0, 0, 0, 0, 0, 0, 0, 0, 1, 0, 3, 10⟩
def x0 : Ms := newM exC
def x1 : Ms := actM x0 1 2
theorem x1_e : actE x0 1 2 = 0 := by decide +kernel
def x2 : Ms := actM x1 1 2
theorem x2_e : actE x1 1 2 = 220 := by decide +kernel
def x3 : Ms := actM x2 1 1
theorem x3_e : actE x2 1 1 = 0 := by decide +kernel
def x4 : Ms := plnM x3 1 1
theorem x4_e : plnE x3 1 1 = 0 := by decide +kernel
def x5 : Ms := plnM x4 1 1
theorem x5_e : plnE x4 1 1 = 222 := by decide +kernel
def x6 : Ms := tckM x5 10
theorem x6_e : tckE x5 10 = 0 := by decide +kernel
def x7 : Ms := tckM x6 9
theorem x7_e : tckE x6 9 = 223 := by decide +kernel
def x8 : Ms := plnM x7 1 (-1)
theorem x8_e : plnE x7 1 (-1) = 0 := by decide +kernel
theorem x0_ok : x0.Ok := newM_ok (by decide +kernel)
theorem x1_ok : x1.Ok := actM_ok x0_ok _ _
theorem x2_ok : x2.Ok := actM_ok x1_ok _ _
theorem x3_ok : x3.Ok := actM_ok x2_ok _ _
theorem x4_ok : x4.Ok := plnM_ok x3_ok _ _
theorem x5_ok : x5.Ok := plnM_ok x4_ok _ _
theorem x6_ok : x6.Ok := tckM_ok x5_ok _
theorem x7_ok : x7.Ok := tckM_ok x6_ok _
theorem x8_ok : x8.Ok := plnM_ok x7_ok _ _
theorem u5p : useP x5 1 = 1 := by decide +kernel
theorem u5n : useN x5 1 = 3 := by decide +kernel
theorem u6n : useN x6 1 = 0 := by decide +kernel
theorem w6 : x6.t / x6.l = 1 := by decide +kernel

set_option maxRecDepth 100000 in
set_option maxHeartbeats 4000000 in
theorem works_any (w : World) : Calls Try.prog 5 #[] w fun e w' => e = .returned (.bool true) ∧ Qt w w' := by
  go_enter Try.func5, Try.ntmps5
  go_wp2_with fail
  refine (plain_any _).mono ?_
  rintro _ w0 ⟨rfl, m0⟩
  go_wp2_with fail
  refine (new_ok exC (by decide +kernel) _).mono ?_
  rintro _ v0 ⟨b, rfl, m1, h0, hb⟩
  replace h0 : MsAt v0 b x0 := h0
  have nb : w.heap.size ≤ b := Nat.le_trans m0.size hb
  have q : Qt w v0 := m0.trans m1 (fun _ e => e.elim)
  clear m0 m1 hb
  go_wp2_with fail
  refine (acts_any h0 x0_ok 1 2).mono ?_
  rintro _ v1 ⟨rfl, m1, h1⟩
  rw [x1_e]
  replace h1 : MsAt v1 b x1 := h1
  replace q : Qt w v1 := q.trans m1 (fun k e => .inr (by rw [e]; exact nb))
  clear m1 h0
  have h0 := h1
  clear h1
  go_wp2_with fail
  refine (acts_any h0 x1_ok 1 2).mono ?_
  rintro _ v2 ⟨rfl, m1, h1⟩
  rw [x2_e]
  replace h1 : MsAt v2 b x2 := h1
  replace q : Qt w v2 := q.trans m1 (fun k e => .inr (by rw [e]; exact nb))
  clear m1 h0
  have h0 := h1
  clear h1
  go_wp2_with fail
  refine (acts_any h0 x2_ok 1 1).mono ?_
  rintro _ v3 ⟨rfl, m1, h1⟩
  rw [x3_e]
  replace h1 : MsAt v3 b x3 := h1
  replace q : Qt w v3 := q.trans m1 (fun k e => .inr (by rw [e]; exact nb))
  clear m1 h0
  have h0 := h1
  clear h1
  go_wp2_with fail
  refine (Plan_any h0 x3_ok 1).mono ?_
  rintro _ v4 ⟨rfl, m1, h1⟩
  rw [x4_e]
  replace h1 : MsAt v4 b x4 := h1
  replace q : Qt w v4 := q.trans m1 (fun k e => .inr (by rw [e]; exact nb))
  clear m1 h0
  have h0 := h1
  clear h1
  go_wp2_with fail
  refine (Plan_any h0 x4_ok 1).mono ?_
  rintro _ v5 ⟨rfl, m1, h1⟩
  rw [x5_e]
  replace h1 : MsAt v5 b x5 := h1
  replace q : Qt w v5 := q.trans m1 (fun k e => .inr (by rw [e]; exact nb))
  clear m1 h0
  have h0 := h1
  clear h1
  go_wp2_with fail
  refine (used_any h0 x5_ok 1).mono ?_
  rintro _ v6 ⟨rfl, m1⟩
  rw [u5p, u5n]
  replace h0 := h0.mv m1 (fun e => e)
  replace q : Qt w v6 := q.trans m1 (fun _ e => e.elim)
  clear m1
  go_wp2_with fail
  refine (tick_any h0 x5_ok 10).mono ?_
  rintro _ v7 ⟨rfl, m1, h1⟩
  rw [x6_e]
  replace h1 : MsAt v7 b x6 := h1
  replace q : Qt w v7 := q.trans m1 (fun k e => .inr (by rw [e]; exact nb))
  clear m1 h0
  have h0 := h1
  clear h1
  go_wp2_with fail
  refine (used_any h0 x6_ok 1).mono ?_
  rintro _ v8 ⟨rfl, m1⟩
  rw [u6n]
  replace h0 := h0.mv m1 (fun e => e)
  replace q : Qt w v8 := q.trans m1 (fun _ e => e.elim)
  clear m1
  go_wp2_with fail
  refine (win_any h0 x6_ok).mono ?_
  rintro _ v9 ⟨rfl, m1⟩
  rw [w6]
  replace h0 := h0.mv m1 (fun e => e)
  replace q : Qt w v9 := q.trans m1 (fun _ e => e.elim)
  clear m1
  go_wp2_with fail
  refine (tick_any h0 x6_ok 9).mono ?_
  rintro _ v10 ⟨rfl, m1, h1⟩
  rw [x7_e]
  replace h1 : MsAt v10 b x7 := h1
  replace q : Qt w v10 := q.trans m1 (fun k e => .inr (by rw [e]; exact nb))
  clear m1 h0
  have h0 := h1
  clear h1
  go_wp2_with fail
  refine (Drop_any h0 x7_ok 1).mono ?_
  rintro _ v11 ⟨rfl, m1, h1⟩
  rw [x8_e]
  replace h1 : MsAt v11 b x8 := h1
  replace q : Qt w v11 := q.trans m1 (fun k e => .inr (by rw [e]; exact nb))
  clear m1 h0
  have h0 := h1
  clear h1
  go_wp2_with fail
  go_ret
  exact ⟨rfl, q⟩
end Go.Proofs.Ytdanedibjccldaa

/-
  The acts that came in.
-/
namespace Go.Proofs.Ytdanedibjccldaa
open Go.RowKit

/-- One act. -/
structure Act4 where
  k : Int
  r : Int
  n : Int
  v : Int
def Act4.ok (a : Act4) : Prop := (-9223372036854775808 ≤ a.k ∧ a.k ≤ 9223372036854775807) ∧ (-9223372036854775808 ≤ a.r ∧ a.r ≤ 9223372036854775807) ∧ (-9223372036854775808 ≤ a.n ∧ a.n ≤ 9223372036854775807) ∧ (-9223372036854775808 ≤ a.v ∧ a.v ≤ 9223372036854775807)
/-- The acts that came in. -/
def Acts (w : World) (la : Option Addr) (ll : Nat) (A : Nat → Act4) : Prop :=
  0 < ll → ∃ b off, la = some ⟨b, off, none⟩ ∧ b < w.heap.size ∧ ∀ j, j < ll → (A j).ok ∧ w.cell? ⟨b, off + j * 4, none⟩ = some (.int .i64 (A j).k) ∧ w.cell? ⟨b, off + j * 4 + 1, none⟩ = some (.int .i64 (A j).r) ∧
    w.cell? ⟨b, off + j * 4 + 2, none⟩ = some (.int .i64 (A j).n) ∧ w.cell? ⟨b, off + j * 4 + 3, none⟩ = some (.int .i64 (A j).v)

end Go.Proofs.Ytdanedibjccldaa

/-
  What QuotaNever asks, in plain numbers; the meter between two acts.
-/
namespace Go.Proofs.Ytdanedibjccldaa
open Go.RowKit
set_option linter.unusedVariables false

theorem actM_id {m : Ms} {x k : Int} (h : actE m x k ≠ 0) : actM m x k = m := by unfold actM; rw [if_neg h]
theorem plnM_id {m : Ms} {x d : Int} (h : plnE m x d ≠ 0) : plnM m x d = m := by unfold plnM; rw [if_neg h]
theorem tckM_id {m : Ms} {t : Int} (h : tckE m t ≠ 0) : tckM m t = m := by unfold tckM; rw [if_neg h]
theorem actE_ok {m : Ms} {x k : Int} (h : actE m x k = 0) : isB m x = true ∧ 0 ≤ k ∧ k ≤ m.a - m.n (x - 1).toNat := by
  unfold actE at h
  by_cases h1 : isB m x = false ∨ k < 0
  · rw [if_pos h1] at h; cases h
  · rw [if_neg h1] at h
    by_cases h2 : m.a - m.n (x - 1).toNat < k
    · rw [if_pos h2] at h; cases h
    · refine ⟨by simpa using fun e => h1 (.inl e), by omega, by omega⟩
theorem plnE_ok {m : Ms} {x d : Int} (h : plnE m x d = 0) : isB m x = true ∧ 0 ≤ m.p (x - 1).toNat + d ∧ m.p (x - 1).toNat + d ≤ m.s := by
  unfold plnE at h
  by_cases h1 : isB m x = false
  · rw [if_pos h1] at h; cases h
  · rw [if_neg h1] at h
    by_cases h2 : m.p (x - 1).toNat + d < 0 ∨ m.s < m.p (x - 1).toNat + d
    · rw [if_pos h2] at h; cases h
    · exact ⟨by simpa using h1, by omega, by omega⟩
theorem useP_in {m : Ms} (ok : m.Ok) (x : Int) : 0 ≤ useP m x ∧ useP m x ≤ m.s := by
  unfold useP
  split
  · exact ⟨ok.p1 _, ok.p2 _⟩
  · exact ⟨Int.le_refl 0, ok.s1⟩
theorem useN_in {m : Ms} (ok : m.Ok) (x : Int) : 0 ≤ useN m x ∧ useN m x ≤ m.a := by
  unfold useN
  split
  · exact ⟨ok.n1 _, ok.n2 _⟩
  · exact ⟨Int.le_refl 0, ok.a1⟩
theorem ne_idx {x y : Int} (hx : 1 ≤ x) (hy : 1 ≤ y) (h : x ≠ y) : (y - 1).toNat ≠ (x - 1).toNat := by omega
theorem act_other {m : Ms} {x k y : Int} (hy : x ≠ y) : useP (actM m x k) y = useP m y ∧ useN (actM m x k) y = useN m y := by
  unfold actM
  split
  · next h =>
    have hx := (isB_iff.1 (actE_ok h).1).1
    refine ⟨rfl, ?_⟩
    show (if isB m y = true then upd _ _ _ (y - 1).toNat else 0) = if isB m y = true then _ else 0
    by_cases hb : isB m y = true
    · rw [if_pos hb, if_pos hb, upd_ne _ _ (ne_idx hx (isB_iff.1 hb).1 hy)]
    · rw [if_neg hb, if_neg hb]
  · exact ⟨rfl, rfl⟩
theorem pln_other {m : Ms} {x d y : Int} (hy : x ≠ y) : useP (plnM m x d) y = useP m y ∧ useN (plnM m x d) y = useN m y := by
  unfold plnM
  split
  · next h =>
    have hx := (isB_iff.1 (plnE_ok h).1).1
    refine ⟨?_, rfl⟩
    show (if isB m y = true then upd _ _ _ (y - 1).toNat else 0) = if isB m y = true then _ else 0
    by_cases hb : isB m y = true
    · rw [if_pos hb, if_pos hb, upd_ne _ _ (ne_idx hx (isB_iff.1 hb).1 hy)]
    · rw [if_neg hb, if_neg hb]
  · exact ⟨rfl, rfl⟩
theorem act_own {m : Ms} {x k : Int} (h : actE m x k = 0) : useN (actM m x k) x = useN m x + k := by
  have hb := (actE_ok h).1
  unfold actM
  rw [if_pos h]
  show (if isB m x = true then upd _ _ _ (x - 1).toNat else 0) = (if isB m x = true then _ else 0) + k
  rw [if_pos hb, if_pos hb, upd_same]
theorem act_l (m : Ms) (x k : Int) : (actM m x k).t = m.t ∧ (actM m x k).l = m.l ∧ (actM m x k).s = m.s ∧ (actM m x k).a = m.a ∧ (actM m x k).c = m.c := by
  unfold actM; split <;> exact ⟨rfl, rfl, rfl, rfl, rfl⟩
theorem pln_l (m : Ms) (x d : Int) : (plnM m x d).t = m.t ∧ (plnM m x d).l = m.l ∧ (plnM m x d).s = m.s ∧ (plnM m x d).a = m.a ∧ (plnM m x d).c = m.c := by
  unfold plnM; split <;> exact ⟨rfl, rfl, rfl, rfl, rfl⟩
theorem tck_l (m : Ms) (t : Int) : (tckM m t).l = m.l ∧ (tckM m t).s = m.s ∧ (tckM m t).a = m.a ∧ (tckM m t).c = m.c ∧ ∀ x, useP (tckM m t) x = useP m x := by
  unfold tckM; split <;> exact ⟨rfl, rfl, rfl, rfl, fun _ => rfl⟩
theorem tck_same {m : Ms} {t : Int} (h : (tckM m t).t / m.l = m.t / m.l) (x : Int) : useN (tckM m t) x = useN m x := by
  unfold tckM at h ⊢
  by_cases hE : tckE m t = 0
  · rw [if_pos hE] at h ⊢
    have h' : t / m.l = m.t / m.l := h
    rw [if_pos h']; rfl
  · rw [if_neg hE]
theorem tck_new {m : Ms} {t : Int} (h : (tckM m t).t / m.l ≠ m.t / m.l) (x : Int) : useN (tckM m t) x = 0 := by
  unfold tckM at h ⊢
  by_cases hE : tckE m t = 0
  · rw [if_pos hE] at h ⊢
    have h' : t / m.l ≠ m.t / m.l := h
    rw [if_neg h']
    show (if isB _ x = true then (0 : Int) else 0) = 0
    split <;> rfl
  · rw [if_neg hE] at h; exact absurd rfl h

/-- Within a round: the meter, the configuration's box, the act's box, and all else as it was. -/
structure RI (w v : World) (B b X : Nat) (c : Cf) (m : Ms) (kk cl n t : Int) : Prop where
  mv : Qt w v
  bx : v.heap[B]? = some (.cells (cfA c) 25 (0, 0))
  ne : B ≠ b
  nb : w.heap.size ≤ b
  ms : MsAt v b m
  xx : v.heap[X]? = some (.cells #[.int .i64 kk, .int .i64 cl, .int .i64 n, .int .i64 t] 38 (0, 0))
  nx : X ≠ b
theorem RI.go {w v v' : World} {B b X : Nat} {c : Cf} {m m' : Ms} {kk cl n t : Int} (h : RI w v B b X c m kk cl n t) (k : At b v v') (hm : MsAt v' b m') : RI w v' B b X c m' kk cl n t :=
  ⟨h.mv.trans k (fun x e => .inr (by rw [e]; exact h.nb)), (k.block B (lt_of h.bx) h.ne).trans h.bx, h.ne, h.nb, hm, (k.block X (lt_of h.xx) h.nx).trans h.xx, h.nx⟩
theorem RI.qt {w v v' : World} {B b X : Nat} {c : Cf} {m : Ms} {kk cl n t : Int} (h : RI w v B b X c m kk cl n t) (k : Qt v v') : RI w v' B b X c m kk cl n t :=
  h.go (k.mono (fun _ e => e.elim)) (h.ms.mv k (fun e => e))
theorem RI.x0 {w v : World} {B b X : Nat} {c : Cf} {m : Ms} {kk cl n t : Int} (h : RI w v B b X c m kk cl n t) : v.cell? ⟨X, 0, none⟩ = some (.int .i64 kk) := cell_of h.xx 0
theorem RI.x1 {w v : World} {B b X : Nat} {c : Cf} {m : Ms} {kk cl n t : Int} (h : RI w v B b X c m kk cl n t) : v.cell? ⟨X, 1, none⟩ = some (.int .i64 cl) := cell_of h.xx 1
theorem RI.x2 {w v : World} {B b X : Nat} {c : Cf} {m : Ms} {kk cl n t : Int} (h : RI w v B b X c m kk cl n t) : v.cell? ⟨X, 2, none⟩ = some (.int .i64 n) := cell_of h.xx 2
theorem RI.x3 {w v : World} {B b X : Nat} {c : Cf} {m : Ms} {kk cl n t : Int} (h : RI w v B b X c m kk cl n t) : v.cell? ⟨X, 3, none⟩ = some (.int .i64 t) := cell_of h.xx 3
theorem RI.y11 {w v : World} {B b X : Nat} {c : Cf} {m : Ms} {kk cl n t : Int} (h : RI w v B b X c m kk cl n t) : v.cell? ⟨B, 11, none⟩ = some (.int .i64 c.st) := cell_of h.bx 11
theorem RI.y13 {w v : World} {B b X : Nat} {c : Cf} {m : Ms} {kk cl n t : Int} (h : RI w v B b X c m kk cl n t) : v.cell? ⟨B, 13, none⟩ = some (.int .i64 c.ac) := cell_of h.bx 13
/-- The meter between two acts, the configuration's box, and all else as it was. -/
structure NI (w wr : World) (B b : Nat) (c : Cf) : Prop where
  mv : Qt w wr
  bx : wr.heap[B]? = some (.cells (cfA c) 25 (0, 0))
  ne : B ≠ b
  nb : w.heap.size ≤ b
  ms : ∃ m, MsAt wr b m ∧ m.Ok ∧ m.s = c.st ∧ m.a = c.ac
theorem NI.ri {w wr : World} {B b : Nat} {c : Cf} {m : Ms} (h : NI w wr B b c) (hm : MsAt wr b m) (kk cl n t : Int) : RI w (wr.alloc (.cells #[.int .i64 kk, .int .i64 cl, .int .i64 n, .int .i64 t] 38)) B b wr.heap.size c m kk cl n t := by
  have q : Qt wr (wr.alloc (.cells #[.int .i64 kk, .int .i64 cl, .int .i64 n, .int .i64 t] 38)) := (Mv.refl wr _).alloc _
  exact ⟨h.mv.alloc _, (q.block B (lt_of h.bx) (fun e => e)).trans h.bx, h.ne, h.nb, hm.mv q (fun e => e), heap_new wr _, fun e => by have := hm.lt; omega⟩
theorem RI.ni {w v : World} {B b X : Nat} {c : Cf} {m : Ms} {kk cl n t : Int} (h : RI w v B b X c m kk cl n t) (ok : m.Ok) (hs : m.s = c.st) (ha : m.a = c.ac) : NI w v B b c :=
  ⟨h.mv, h.bx, h.ne, h.nb, m, h.ms, ok, hs, ha⟩

end Go.Proofs.Ytdanedibjccldaa

/-
  QuotaNever: what its loop keeps.
-/
namespace Go.Proofs.Ytdanedibjccldaa
open Go.RowKit
set_option linter.unusedVariables false

def firstLoop : Code → Option Code
  | .loop c => some c
  | .seq a b => match firstLoop a with
    | some c => some c
    | none => firstLoop b
  | .block _ c => firstLoop c
  | .scope c => firstLoop c
  | .cond _ a b => match firstLoop a with
    | some c => some c
    | none => firstLoop b
  | _ => none
def bodyOf (b : Option Code) : Code := (b.bind firstLoop).getD .skip
set_option maxRecDepth 100000 in
/-- The slots: k what the loop does not touch, u what it does. -/
def fr (k u : Nat → Value) (la : Option Addr) (ll lc B b : Nat) (ii : Int) : Array Value := #[k 0, .slice la ll lc, .pointer (some ⟨B, 0, none⟩), k 3, u 4, .bool true, .pointer (some ⟨b, 0, none⟩), .int .i64 0, .int .i64 ii, u 9, u 10, u 11, u 12, u 13, u 14, u 15, u 16, u 17, u 18, u 19, u 20, k 21, k 22, k 23, k 24, k 25, k 26, k 27, k 28, k 29, k 30, k 31, k 32, k 33, k 34, k 35, k 36, k 37, k 38, k 39, k 40, u 41, u 42, u 43, u 44, u 45, u 46, u 47, u 48, u 49, u 50, u 51, u 52, u 53, u 54, u 55, u 56, u 57, u 58, u 59, u 60, u 61, u 62, u 63, u 64, u 65, u 66, u 67, u 68, u 69, u 70, u 71, u 72, u 73, u 74, u 75, u 76, u 77, u 78, u 79, u 80, u 81, u 82, u 83, u 84, u 85, u 86, u 87, u 88, u 89, u 90, u 91, u 92, u 93, u 94, u 95, u 96, u 97, u 98, u 99, u 100, u 101, u 102, u 103, u 104, u 105, u 106, u 107, u 108, u 109, u 110, u 111, u 112, u 113, u 114, u 115, u 116, u 117, u 118, u 119, u 120, u 121, u 122, u 123, u 124, u 125, u 126, u 127, u 128, u 129, u 130, u 131, u 132, u 133, u 134, u 135, u 136, u 137, u 138, u 139, u 140, u 141, u 142, u 143, u 144, u 145, u 146, u 147, u 148, u 149, u 150, u 151, u 152, u 153, u 154, u 155, u 156, u 157, u 158, u 159, u 160, u 161, u 162, u 163, u 164, u 165, u 166, u 167, u 168, u 169, u 170, u 171, u 172, u 173, u 174, u 175, u 176, u 177, u 178, u 179, u 180, u 181, u 182, u 183, u 184, u 185, u 186, u 187, u 188, u 189, u 190, u 191, u 192, u 193, u 194, u 195, u 196, u 197, u 198, u 199, u 200, u 201, k 202]
def WI (w : World) (B b : Nat) (c : Cf) (la : Option Addr) (ll lc : Nat) (k : Nat → Value) (a : Act) (w' : World) : Prop :=
  ∃ (i : Nat) (ii : Int) (u : Nat → Value), (ii = i ∧ i ≤ ll ∧ NI w w' B b c) ∧ a = ⟨fr k u la ll lc B b ii, []⟩
def mu (ll : Nat) (a : Act) (_ : World) : Nat := ll - (intOf (a.tmps.getD 8 undef)).toNat
theorem wi_mk {w : World} {B b : Nat} {c : Cf} {la : Option Addr} {ll lc : Nat} {k : Nat → Value} {w' : World} {t : Array Value} {i : Nat} {ii : Int} (hi : i ≤ ll) (hii : ii = i) (hN : NI w w' B b c)
    (h : t = fr k (fun j => t.getD j undef) la ll lc B b ii) : WI w B b c la ll lc k ⟨t, []⟩ w' := ⟨i, ii, _, ⟨hii, hi, hN⟩, congrArg (fun x => Act.mk x []) h⟩
end Go.Proofs.Ytdanedibjccldaa
