/-
  Walks of the document's named, number and mark.
-/
import Derived.Test.YtelanneckjgnbaaDoorLxw
namespace Go.Proofs.YtelanneckjgnbaaDoor
open Go.RowKit

theorem results_two {P : Program} {fn : Func} {p u : Tmp} {ty : TypeId} (h : fn.results = #[.cell p ty, .tmp u]) (tmps : Array Value) (w : World) (g : Nat) (t : TypeId) (cs : Array Value) (fr : Nat × Nat) (d : TypeDesc)
    (hp : tmps.getD p undef = .pointer (some ⟨g, 0, none⟩)) (hg : w.heap[g]? = some (.cells cs t fr))
    (hu : P.underlying ty = some d) (hd : (match d with | .struct _ | .array _ _ => true | _ => false) = true) (hi : (P.info? ty).map (·.size) = some cs.size) :
    (results fn tmps).run P w = .ok (.tuple #[.agg cs, tmps.getD u undef]) w := by
  have hp' : tmps[p]?.getD undef = .pointer (some ⟨g, 0, none⟩) := by simpa using hp
  simp [results, h, hp', asAddr, run_loadVar_row w g t ty cs fr d hg hu hd hi]
theorem results_three {P : Program} {fn : Func} {p u v : Tmp} {ty : TypeId} (h : fn.results = #[.cell p ty, .tmp u, .tmp v]) (tmps : Array Value) (w : World) (g : Nat) (t : TypeId) (cs : Array Value) (fr : Nat × Nat) (d : TypeDesc)
    (hp : tmps.getD p undef = .pointer (some ⟨g, 0, none⟩)) (hg : w.heap[g]? = some (.cells cs t fr))
    (hu : P.underlying ty = some d) (hd : (match d with | .struct _ | .array _ _ => true | _ => false) = true) (hi : (P.info? ty).map (·.size) = some cs.size) :
    (results fn tmps).run P w = .ok (.tuple #[.agg cs, tmps.getD u undef, tmps.getD v undef]) w := by
  have hp' : tmps[p]?.getD undef = .pointer (some ⟨g, 0, none⟩) := by simpa using hp
  simp [results, h, hp', asAddr, run_loadVar_row w g t ty cs fr d hg hu hd hi]
theorem below_two (w : World) (X Y : Obj) : Below w.heap.size w ((w.alloc X).alloc Y) := (below_new w X).alloc (by rw [size_alloc]; omega) Y
theorem heap_old {w : World} {o : Obj} {k : Nat} {x : Option Obj} (h : w.heap[k]? = x) (hk : k < w.heap.size) : (w.alloc o).heap[k]? = x := (Below.heap_alloc _ _ _ hk).trans h
theorem cell_of {w : World} {g : Nat} {cs : Array Value} {t : TypeId} {fr : Nat × Nat} (h : w.heap[g]? = some (.cells cs t fr)) (j : Nat) : w.cell? ⟨g, j, none⟩ = cs[j]? := by
  unfold World.cell?; rw [h]; simp
theorem frozen_of {w : World} {g : Nat} {cs : Array Value} {t : TypeId} (h : w.heap[g]? = some (.cells cs t (0, 0))) (j : Nat) : w.frozen? ⟨g, j, none⟩ = false := by
  unfold World.frozen?; rw [h]; simp
theorem heap_set {w : World} {g j : Nat} {cs : Array Value} {t : TypeId} {fr : Nat × Nat} (v : Value) (h : w.heap[g]? = some (.cells cs t fr)) : (w.setCell ⟨g, j, none⟩ v).heap[g]? = some (.cells (cs.setIfInBounds j v) t fr) := by
  have hg : g < w.heap.size := (Array.getElem?_eq_some_iff.1 h).1
  have hv : w.heap[g] = .cells cs t fr := (Array.getElem?_eq_some_iff.1 h).2
  unfold World.setCell
  simp [hg, Array.getElem_modify, hv]
def TkH (w : World) (b : Nat) (t : Tk) : Prop := w.heap[b]? = some (.cells (tkA t) 49 (0, 0))
theorem TkH.lt {w : World} {b : Nat} {t : Tk} (h : TkH w b t) : b < w.heap.size := (Array.getElem?_eq_some_iff.1 h).1
theorem TkH.onto {w w' : World} {b : Nat} {t : Tk} (h : TkH w b t) (k : Below w.heap.size w w') : TkH w' b t := (k.block b h.lt).trans h
theorem TkH.hid {w : World} {b : Nat} {t : Tk} (h : TkH w b t) : Hid (TkH w b t) := h
theorem TkH.cells {w : World} {b : Nat} {t : Tk} (h : TkH w b t) : w.cell? ⟨b, 0, none⟩ = some (.int .u8 t.k) ∧ w.cell? ⟨b, 1, none⟩ = some (.string t.x) ∧ w.cell? ⟨b, 2, none⟩ = some (.int .u8 t.ty) ∧ w.cell? ⟨b, 3, none⟩ = some (.int .i64 t.n) ∧ w.cell? ⟨b, 4, none⟩ = some (.int .i64 t.p) := ⟨cell_of h 0, cell_of h 1, cell_of h 2, cell_of h 3, cell_of h 4⟩
theorem TkH.froz {w : World} {b : Nat} {t : Tk} (h : TkH w b t) : w.frozen? ⟨b, 0, none⟩ = false ∧ w.frozen? ⟨b, 1, none⟩ = false ∧ w.frozen? ⟨b, 2, none⟩ = false ∧ w.frozen? ⟨b, 3, none⟩ = false ∧ w.frozen? ⟨b, 4, none⟩ = false := ⟨frozen_of h 0, frozen_of h 1, frozen_of h 2, frozen_of h 3, frozen_of h 4⟩
theorem TkH.put {w : World} {b : Nat} {t : Tk} (h : TkH w b t) (u : Tk) : TkH (((((w.setCell ⟨b, 0, none⟩ (.int .u8 u.k)).setCell ⟨b, 1, none⟩ (.string u.x)).setCell ⟨b, 2, none⟩ (.int .u8 u.ty)).setCell ⟨b, 3, none⟩ (.int .i64 u.n)).setCell ⟨b, 4, none⟩ (.int .i64 u.p)) b u :=
  heap_set _ (heap_set _ (heap_set _ (heap_set _ (heap_set _ h))))
theorem below_put {B : Nat} {w v : World} {b : Nat} (h : Below B w v) (hb : B ≤ b) (v0 v1 v2 v3 v4 : Value) : Below B w (((((v.setCell ⟨b, 0, none⟩ v0).setCell ⟨b, 1, none⟩ v1).setCell ⟨b, 2, none⟩ v2).setCell ⟨b, 3, none⟩ v3).setCell ⟨b, 4, none⟩ v4) :=
  ((((h.setCell (p := ⟨b, 0, none⟩) hb v0).setCell (p := ⟨b, 1, none⟩) hb v1).setCell (p := ⟨b, 2, none⟩) hb v2).setCell (p := ⟨b, 3, none⟩) hb v3).setCell (p := ⟨b, 4, none⟩) hb v4

/-- A word or a name at a place; what is wrong with it. -/
def nmT (s : ByteArray) (a : Nat) : Tk := if lead goB (rest s a) > 16 then tk0 else ⟨if isW (s.extract a (a + lead goB (rest s a))) = true then 1 else 2, s.extract a (a + lead goB (rest s a)), 0, 0, a⟩
def nmE (s : ByteArray) (a : Nat) : Int := if lead goB (rest s a) > 16 then 112 else 0
set_option maxRecDepth 100000 in
set_option maxHeartbeats 2000000 in
theorem named_any (s : ByteArray) (a : Nat) (hs : s.size ≤ 140737488355328) (ha : a ≤ s.size) (w : World) :
    Calls Tryd.prog 67 #[.string s, .int .i64 a] w fun e w' => e = .returned (.tuple #[.agg (tkA (nmT s a)), .int .i64 (nmE s a)]) ∧ Below w.heap.size w w' := by
  obtain ⟨d, hd⟩ : ∃ d, a + lead goB (rest s a) = d := ⟨_, rfl⟩
  have hd1 : a ≤ d := by omega
  have hd2 : d ≤ s.size := by have := lead_le goB (rest s a); rw [rest_len] at this; omega
  have HT : Hid (nmT s a = if d - a > 16 then tk0 else ⟨if isW (s.extract a d) = true then 1 else 2, s.extract a d, 0, 0, a⟩) := by show _ = _; unfold nmT; rw [hd, show lead goB (rest s a) = d - a by omega]
  have HE : Hid (nmE s a = if d - a > 16 then 112 else 0) := by show _ = _; unfold nmE; rw [show lead goB (rest s a) = d - a by omega]
  have HD : Hid (d = a + lead goB (rest s a)) := hd.symm
  have H0 : Hid (TkH (w.alloc (.cells (tkA tk0) 49)) w.heap.size tk0) := heap_new w _
  have hB := below_new w (.cells (tkA tk0) 49)
  have hz := size_alloc w (.cells (tkA tk0) 49)
  unfold tkA tk0 at hB hz
  dsimp only at hB hz
  clear hd
  go_enter Tryd.func67, Tryd.ntmps67
  go_wp2_with fail
  obtain ⟨W, eW⟩ : ∃ W, w.alloc (.cells #[.int .u8 0, .string ⟨#[]⟩, .int .u8 0, .int .i64 0, .int .i64 0] 49) = W := ⟨_, rfl⟩
  have H1 : Hid (TkH W w.heap.size tk0) := by have := H0.out; unfold tkA tk0 at this; dsimp only at this; rw [eW] at this; exact this
  rw [eW] at hB hz ⊢
  clear eW H0
  go_loop [6] (fun t => ∃ i : Nat, a ≤ i ∧ i ≤ d ∧ t = .int .i64 i ∧ Hid (d = i + lead goB (rest s i))) (fun t => s.size - (intOf t).toNat)
  case atStart => exact ⟨a, Nat.le_refl _, hd1, rfl, HD⟩
  case round =>
    obtain ⟨i, hi1, hi2, rfl, HR⟩ := hrel
    clear HD
    by_cases hlt : i < s.size
    · have hlt' : (i : Int) < (s.size : Int) := by omega
      have hr := rest_at s i hlt
      obtain ⟨c, hc⟩ : ∃ c, s[i] = c := ⟨_, rfl⟩
      rw [hc] at hr
      cases hg : goB c
      · have hs2 : Hid (i = d) := by show _ = _; rw [HR.out, hr, lead, if_neg (by rw [hg]; decide)]; omega
        have hs3 := hs2.out
        subst hs3
        clear hr hs2 HR
        by_cases h16 : i - a > 16
        · have h16' : (16 : Int) < (i : Int) - (a : Int) := by omega
          have hT := HT.out
          rw [if_pos h16] at hT
          have hE := HE.out
          rw [if_pos h16] at hE
          obtain ⟨r0, r1, r2, r3, r4⟩ := H1.out.cells
          obtain ⟨f0, f1, f2, f3, f4⟩ := H1.out.froz
          have hlt4 := H1.out.lt
          have KT : Hid (nmT s a = tk0) := hT
          have KE : Hid (nmE s a = 112) := hE
          clear hT hE HT HE
          go_wp2_with (go_at_call 57; refine (goes_b hg _).mono ?_; rintro _ v ⟨rfl, e⟩; obtain rfl := e.symm)
          exact bodyPost_ret (results_two (p := 4) (u := 5) (ty := 49) rfl _ _ w.heap.size 49 (tkA tk0) (0, 0) _ rfl (heap_old (H1.out.put tk0) (H1.out.put tk0).lt) Tryd.underlying49 rfl (by kernel_rfl)) rfl ⟨by rw [KT.out, KE.out]; rfl, (below_put hB (Nat.le_refl _) _ _ _ _ _).alloc (below_put hB (Nat.le_refl _) _ _ _ _ _).size _⟩
        · have h16' : ¬ (16 : Int) < (i : Int) - (a : Int) := by omega
          have hT := HT.out
          rw [if_neg h16] at hT
          have hE := HE.out
          rw [if_neg h16] at hE
          obtain ⟨x, ex⟩ : ∃ x, s.extract a i = x := ⟨_, rfl⟩
          rw [ex] at hT
          have hY : TkH (W.alloc (.cells (tkA ⟨2, x, 0, 0, a⟩) 49)) W.heap.size ⟨2, x, 0, 0, a⟩ := heap_new W _
          have hR : TkH (W.alloc (.cells (tkA ⟨2, x, 0, 0, a⟩) 49)) w.heap.size tk0 := heap_old H1.out H1.out.lt
          have hB2 := hB.alloc hB.size (.cells (tkA ⟨2, x, 0, 0, a⟩) 49)
          rw [hz] at hY
          have HY := hY.hid
          have HRR := hR.hid
          have HB2 : Hid (Below w.heap.size w (W.alloc (.cells (tkA ⟨2, x, 0, 0, a⟩) 49))) := hB2
          have hwa := word_any x
          cases hw : isW x
          · rw [hw] at hT hwa
            have hT' : nmT s a = ⟨2, x, 0, 0, a⟩ := hT
            have KT : Hid (nmT s a = ⟨2, x, 0, 0, a⟩) := hT'
            have KE : Hid (nmE s a = 0) := hE
            clear hT hE HT HE hT' hY hR hB2
            go_wp2_with (go_at_call 57; refine (goes_b hg _).mono ?_; rintro _ v ⟨rfl, e⟩; obtain rfl := e.symm)
            refine (hwa _).mono ?_
            rintro _ v ⟨rfl, bb⟩
            have HY2 := (HY.out.onto bb).hid
            have HR2 := (HRR.out.onto bb).hid
            have hB3 := HB2.out.trans (bb.mono HB2.out.size)
            obtain ⟨y0, y1, y2, y3, y4⟩ := HY2.out.cells
            obtain ⟨r0, r1, r2, r3, r4⟩ := HR2.out.cells
            obtain ⟨f0, f1, f2, f3, f4⟩ := HR2.out.froz
            clear bb
            go_wp2
            exact bodyPost_ret (results_two (p := 4) (u := 5) (ty := 49) rfl _ _ w.heap.size 49 (tkA ⟨2, x, 0, 0, a⟩) (0, 0) _ rfl (HR2.out.put ⟨2, x, 0, 0, a⟩) Tryd.underlying49 rfl (by kernel_rfl)) rfl ⟨by rw [KT.out, KE.out]; rfl, below_put hB3 (Nat.le_refl _) _ _ _ _ _⟩
          · rw [hw] at hT hwa
            have hT' : nmT s a = ⟨1, x, 0, 0, a⟩ := hT
            have KT : Hid (nmT s a = ⟨1, x, 0, 0, a⟩) := hT'
            have KE : Hid (nmE s a = 0) := hE
            clear hT hE HT HE hT' hY hR hB2
            go_wp2_with (go_at_call 57; refine (goes_b hg _).mono ?_; rintro _ v ⟨rfl, e⟩; obtain rfl := e.symm)
            refine (hwa _).mono ?_
            rintro _ v ⟨rfl, bb⟩
            have HY2 := (HY.out.onto bb).hid
            have HR2 := (HRR.out.onto bb).hid
            have hB3 := HB2.out.trans (bb.mono HB2.out.size)
            obtain ⟨V, eV⟩ : ∃ V, v.setCell ⟨w.heap.size + 1, 0, none⟩ (.int .u8 1) = V := ⟨_, rfl⟩
            have HY3 : Hid (TkH V (w.heap.size + 1) ⟨1, x, 0, 0, a⟩) := by show TkH V _ _; rw [← eV]; exact heap_set _ HY2.out
            have HR3 : Hid (TkH V w.heap.size tk0) := by show TkH V _ _; rw [← eV]; exact (Below.heap_setCell _ _ _ _ (by simp)).trans HR2.out
            have hB4 : Below w.heap.size w V := by rw [← eV]; exact hB3.setCell (p := ⟨w.heap.size + 1, 0, none⟩) (by simp) _
            obtain ⟨z0, z1, z2, z3, z4⟩ := HY2.out.cells
            obtain ⟨g0, g1, g2, g3, g4⟩ := HY2.out.froz
            obtain ⟨y0, y1, y2, y3, y4⟩ := HY3.out.cells
            obtain ⟨r0, r1, r2, r3, r4⟩ := HR3.out.cells
            obtain ⟨f0, f1, f2, f3, f4⟩ := HR3.out.froz
            clear bb hB3
            go_wp2
            exact bodyPost_ret (results_two (p := 4) (u := 5) (ty := 49) rfl _ _ w.heap.size 49 (tkA ⟨1, x, 0, 0, a⟩) (0, 0) _ rfl (HR3.out.put ⟨1, x, 0, 0, a⟩) Tryd.underlying49 rfl (by kernel_rfl)) rfl ⟨by rw [KT.out, KE.out]; rfl, below_put hB4 (Nat.le_refl _) _ _ _ _ _⟩
      · have hs2 : Hid (d = (i + 1) + lead goB (rest s (i + 1))) := by show _ = _; rw [HR.out, hr, lead, if_pos hg]; omega
        have h3 : i + 1 ≤ d := by have := hs2.out; omega
        clear hr
        go_wp2_with (go_at_call 57; refine (goes_b hg _).mono ?_; rintro _ v ⟨rfl, e⟩; obtain rfl := e.symm)
        exact ⟨⟨i + 1, by omega, h3, by go_num, hs2⟩, by simp only [intOf]; omega⟩
    · have hn : ¬ (i : Int) < (s.size : Int) := by omega
      have hs3 : i = d := by rw [HR.out, rest_end s i (by omega)]; rfl
      subst hs3
      clear HR
      by_cases h16 : i - a > 16
      · have h16' : (16 : Int) < (i : Int) - (a : Int) := by omega
        have hT := HT.out
        rw [if_pos h16] at hT
        have hE := HE.out
        rw [if_pos h16] at hE
        obtain ⟨r0, r1, r2, r3, r4⟩ := H1.out.cells
        obtain ⟨f0, f1, f2, f3, f4⟩ := H1.out.froz
        have hlt4 := H1.out.lt
        have KT : Hid (nmT s a = tk0) := hT
        have KE : Hid (nmE s a = 112) := hE
        clear hT hE HT HE
        go_wp2_with fail
        exact bodyPost_ret (results_two (p := 4) (u := 5) (ty := 49) rfl _ _ w.heap.size 49 (tkA tk0) (0, 0) _ rfl (heap_old (H1.out.put tk0) (H1.out.put tk0).lt) Tryd.underlying49 rfl (by kernel_rfl)) rfl ⟨by rw [KT.out, KE.out]; rfl, (below_put hB (Nat.le_refl _) _ _ _ _ _).alloc (below_put hB (Nat.le_refl _) _ _ _ _ _).size _⟩
      · have h16' : ¬ (16 : Int) < (i : Int) - (a : Int) := by omega
        have hT := HT.out
        rw [if_neg h16] at hT
        have hE := HE.out
        rw [if_neg h16] at hE
        obtain ⟨x, ex⟩ : ∃ x, s.extract a i = x := ⟨_, rfl⟩
        rw [ex] at hT
        have hY : TkH (W.alloc (.cells (tkA ⟨2, x, 0, 0, a⟩) 49)) W.heap.size ⟨2, x, 0, 0, a⟩ := heap_new W _
        have hR : TkH (W.alloc (.cells (tkA ⟨2, x, 0, 0, a⟩) 49)) w.heap.size tk0 := heap_old H1.out H1.out.lt
        have hB2 := hB.alloc hB.size (.cells (tkA ⟨2, x, 0, 0, a⟩) 49)
        rw [hz] at hY
        have HY := hY.hid
        have HRR := hR.hid
        have HB2 : Hid (Below w.heap.size w (W.alloc (.cells (tkA ⟨2, x, 0, 0, a⟩) 49))) := hB2
        have hwa := word_any x
        cases hw : isW x
        · rw [hw] at hT hwa
          have hT' : nmT s a = ⟨2, x, 0, 0, a⟩ := hT
          have KT : Hid (nmT s a = ⟨2, x, 0, 0, a⟩) := hT'
          have KE : Hid (nmE s a = 0) := hE
          clear hT hE HT HE hT' hY hR hB2
          go_wp2_with fail
          refine (hwa _).mono ?_
          rintro _ v ⟨rfl, bb⟩
          have HY2 := (HY.out.onto bb).hid
          have HR2 := (HRR.out.onto bb).hid
          have hB3 := HB2.out.trans (bb.mono HB2.out.size)
          obtain ⟨y0, y1, y2, y3, y4⟩ := HY2.out.cells
          obtain ⟨r0, r1, r2, r3, r4⟩ := HR2.out.cells
          obtain ⟨f0, f1, f2, f3, f4⟩ := HR2.out.froz
          clear bb
          go_wp2
          exact bodyPost_ret (results_two (p := 4) (u := 5) (ty := 49) rfl _ _ w.heap.size 49 (tkA ⟨2, x, 0, 0, a⟩) (0, 0) _ rfl (HR2.out.put ⟨2, x, 0, 0, a⟩) Tryd.underlying49 rfl (by kernel_rfl)) rfl ⟨by rw [KT.out, KE.out]; rfl, below_put hB3 (Nat.le_refl _) _ _ _ _ _⟩
        · rw [hw] at hT hwa
          have hT' : nmT s a = ⟨1, x, 0, 0, a⟩ := hT
          have KT : Hid (nmT s a = ⟨1, x, 0, 0, a⟩) := hT'
          have KE : Hid (nmE s a = 0) := hE
          clear hT hE HT HE hT' hY hR hB2
          go_wp2_with fail
          refine (hwa _).mono ?_
          rintro _ v ⟨rfl, bb⟩
          have HY2 := (HY.out.onto bb).hid
          have HR2 := (HRR.out.onto bb).hid
          have hB3 := HB2.out.trans (bb.mono HB2.out.size)
          obtain ⟨V, eV⟩ : ∃ V, v.setCell ⟨w.heap.size + 1, 0, none⟩ (.int .u8 1) = V := ⟨_, rfl⟩
          have HY3 : Hid (TkH V (w.heap.size + 1) ⟨1, x, 0, 0, a⟩) := by show TkH V _ _; rw [← eV]; exact heap_set _ HY2.out
          have HR3 : Hid (TkH V w.heap.size tk0) := by show TkH V _ _; rw [← eV]; exact (Below.heap_setCell _ _ _ _ (by simp)).trans HR2.out
          have hB4 : Below w.heap.size w V := by rw [← eV]; exact hB3.setCell (p := ⟨w.heap.size + 1, 0, none⟩) (by simp) _
          obtain ⟨z0, z1, z2, z3, z4⟩ := HY2.out.cells
          obtain ⟨g0, g1, g2, g3, g4⟩ := HY2.out.froz
          obtain ⟨y0, y1, y2, y3, y4⟩ := HY3.out.cells
          obtain ⟨r0, r1, r2, r3, r4⟩ := HR3.out.cells
          obtain ⟨f0, f1, f2, f3, f4⟩ := HR3.out.froz
          clear bb hB3
          go_wp2
          exact bodyPost_ret (results_two (p := 4) (u := 5) (ty := 49) rfl _ _ w.heap.size 49 (tkA ⟨1, x, 0, 0, a⟩) (0, 0) _ rfl (HR3.out.put ⟨1, x, 0, 0, a⟩) Tryd.underlying49 rfl (by kernel_rfl)) rfl ⟨by rw [KT.out, KE.out]; rfl, below_put hB4 (Nat.le_refl _) _ _ _ _ _⟩
end Go.Proofs.YtelanneckjgnbaaDoor
