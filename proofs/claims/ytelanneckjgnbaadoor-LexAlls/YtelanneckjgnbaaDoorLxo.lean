/-
  The walk of the document's One and Next.
-/
import Derived.Test.YtelanneckjgnbaaDoorLxd
namespace Go.Proofs.YtelanneckjgnbaaDoor
open Go.RowKit

def oneP (s : ByteArray) (f : Nat) : Nat := f + ov (rest s f) false
def hdB (p : UInt8 → Bool) : List UInt8 → Bool
  | [] => false
  | c :: _ => p c
/-- The first token from a place on; what is wrong, and where. -/
def oneT (s : ByteArray) (f : Nat) : Tk :=
  if oneP s f = s.size then ⟨0, ⟨#[]⟩, 0, 0, oneP s f⟩
  else if hdB letB (rest s (oneP s f)) = true then nmT s (oneP s f)
  else if hdB digB (rest s (oneP s f)) = true then nbT s (oneP s f) else mkT s (oneP s f)
def oneE (s : ByteArray) (f : Nat) : Int :=
  if oneP s f = s.size then 0
  else if hdB letB (rest s (oneP s f)) = true then nmE s (oneP s f)
  else if hdB digB (rest s (oneP s f)) = true then nbE s (oneP s f) else mkE s (oneP s f)
def oneB (s : ByteArray) (f : Nat) : Int := if oneE s f = 0 then 0 else oneP s f
def oneV (s : ByteArray) (f : Nat) : Value := .tuple #[.agg (tkA (oneT s f)), .int .i64 (oneE s f), .int .i64 (oneB s f)]

set_option maxRecDepth 100000 in
set_option maxHeartbeats 2000000 in
theorem one_name (s : ByteArray) (f d : Nat) (hs : s.size ≤ 140737488355328) (hf : f ≤ s.size) (hp : oneP s f = d) (hd : d < s.size) (c : UInt8) (hc : s[d] = c) (hl : letB c = true) (w : World) :
    Calls Tryd.prog 44 #[.string s, .int .i64 f] w fun e w' => e = .returned (oneV s f) ∧ Below w.heap.size w w' := by
  have hr : rest s d = c :: rest s (d + 1) := by rw [rest_at s d hd, hc]
  have hne : ¬ d = s.size := by omega
  have KT : Hid (oneT s f = nmT s d) := by show _ = _; unfold oneT; rw [hp, if_neg hne, hr]; simp [hdB, hl]
  have KE : Hid (oneE s f = nmE s d) := by show _ = _; unfold oneE; rw [hp, if_neg hne, hr]; simp [hdB, hl]
  have cO := over_any s f hs hf d hp.symm
  have cN := named_any s d hs (Nat.le_of_lt hd)
  obtain ⟨T, eT⟩ : ∃ T, nmT s d = T := ⟨_, rfl⟩
  obtain ⟨E, eE⟩ : ∃ E, nmE s d = E := ⟨_, rfl⟩
  rw [eT, eE] at cN
  rw [eT] at KT
  rw [eE] at KE
  have KB : Hid (oneB s f = if E = 0 then 0 else (d : Int)) := by show _ = _; unfold oneB; rw [KE.out, hp]
  have hR : TkH ((w.alloc (.cells (tkA tk0) 49)).alloc (.cells (tkA tk0) 49)) w.heap.size tk0 := heap_fst _ _ _
  have hT : TkH ((w.alloc (.cells (tkA tk0) 49)).alloc (.cells (tkA tk0) 49)) (w.heap.size + 1) tk0 := by
    have := heap_new (w.alloc (.cells (tkA tk0) 49)) (.cells (tkA tk0) 49)
    rwa [size_alloc] at this
  have hB := below_two w (.cells (tkA tk0) 49) (.cells (tkA tk0) 49)
  have HR := hR.hid
  have HT := hT.hid
  have HB : Hid (Below w.heap.size w ((w.alloc (.cells (tkA tk0) 49)).alloc (.cells (tkA tk0) 49))) := hB
  have hd' : (d : Int) < (s.size : Int) := by omega
  have hne' : ((d : Int) == (s.size : Int)) = false := beq_false_of_ne (by omega)
  unfold tkA at cN
  clear hR hT hB hr hp eT eE
  go_enter Tryd.func44, Tryd.ntmps44
  go_wp2_with (first | (go_at_call 66; refine (cO _).mono ?_; rintro _ v ⟨rfl, e⟩; obtain rfl := e.symm) | (go_at_call 56; refine (letter_b hl _).mono ?_; rintro _ v ⟨rfl, e⟩; obtain rfl := e.symm))
  refine (cN _).mono ?_
  rintro _ v ⟨rfl, bb⟩
  have HR2 := (HR.out.onto bb).hid
  have HT2 := (HT.out.onto bb).hid
  have hB2 := HB.out.trans (bb.mono HB.out.size)
  obtain ⟨V, eV⟩ : ∃ V, ((((v.setCell ⟨w.heap.size + 1, 0, none⟩ (.int .u8 T.k)).setCell ⟨w.heap.size + 1, 1, none⟩ (.string T.x)).setCell ⟨w.heap.size + 1, 2, none⟩ (.int .u8 T.ty)).setCell ⟨w.heap.size + 1, 3, none⟩ (.int .i64 T.n)).setCell ⟨w.heap.size + 1, 4, none⟩ (.int .i64 T.p) = V := ⟨_, rfl⟩
  have HT3 : Hid (TkH V (w.heap.size + 1) T) := by show TkH V _ _; rw [← eV]; exact HT2.out.put T
  have HR3 : Hid (TkH V w.heap.size tk0) := by
    show TkH V _ _
    rw [← eV]
    refine Eq.trans ?_ HR2.out
    rw [Below.heap_setCell _ _ _ _ (by simp), Below.heap_setCell _ _ _ _ (by simp), Below.heap_setCell _ _ _ _ (by simp), Below.heap_setCell _ _ _ _ (by simp), Below.heap_setCell _ _ _ _ (by simp)]
  have hB4 : Below w.heap.size w V := by rw [← eV]; exact below_put hB2 (by omega) _ _ _ _ _
  obtain ⟨t0, t1, t2, t3, t4⟩ := HT2.out.cells
  obtain ⟨g0, g1, g2, g3, g4⟩ := HT2.out.froz
  clear bb hB2 HR HT HB
  by_cases hE : E = 0
  · have kB := KB.out
    rw [if_pos hE] at kB
    have hE' : (E != 0) = false := by simp [hE]
    have KE0 : Hid (oneE s f = 0) := by show _ = _; rw [KE.out, hE]
    have KB0 : Hid (oneB s f = 0) := kB
    subst hE
    clear kB KB KE
    obtain ⟨y0, y1, y2, y3, y4⟩ := HT3.out.cells
    obtain ⟨r0, r1, r2, r3, r4⟩ := HR3.out.cells
    obtain ⟨f0, f1, f2, f3, f4⟩ := HR3.out.froz
    go_wp2
    exact bodyPost_ret (results_three (p := 4) (u := 5) (v := 6) (ty := 49) rfl _ _ w.heap.size 49 (tkA T) (0, 0) _ rfl (HR3.out.put T) Tryd.underlying49 rfl (by kernel_rfl)) rfl ⟨by unfold oneV; rw [KT.out, KE0.out, KB0.out]; rfl, below_put hB4 (Nat.le_refl _) _ _ _ _ _⟩
  · have kB := KB.out
    rw [if_neg hE] at kB
    have hE' : (E != 0) = true := by simp [hE]
    have KB0 : Hid (oneB s f = (d : Int)) := kB
    clear kB KB hE
    obtain ⟨y0, y1, y2, y3, y4⟩ := HT3.out.cells
    obtain ⟨r0, r1, r2, r3, r4⟩ := HR3.out.cells
    obtain ⟨f0, f1, f2, f3, f4⟩ := HR3.out.froz
    go_wp2
    exact bodyPost_ret (results_three (p := 4) (u := 5) (v := 6) (ty := 49) rfl _ _ w.heap.size 49 (tkA T) (0, 0) _ rfl (HR3.out.put T) Tryd.underlying49 rfl (by kernel_rfl)) rfl ⟨by unfold oneV; rw [KT.out, KE.out, KB0.out]; rfl, below_put hB4 (Nat.le_refl _) _ _ _ _ _⟩

set_option maxRecDepth 100000 in
set_option maxHeartbeats 2000000 in
theorem one_num (s : ByteArray) (f d : Nat) (hs : s.size ≤ 140737488355328) (hf : f ≤ s.size) (hp : oneP s f = d) (hd : d < s.size) (c : UInt8) (hc : s[d] = c) (hl : letB c = false) (hg : digB c = true) (w : World) :
    Calls Tryd.prog 44 #[.string s, .int .i64 f] w fun e w' => e = .returned (oneV s f) ∧ Below w.heap.size w w' := by
  have hr : rest s d = c :: rest s (d + 1) := by rw [rest_at s d hd, hc]
  have hne : ¬ d = s.size := by omega
  have KT : Hid (oneT s f = nbT s d) := by show _ = _; unfold oneT; rw [hp, if_neg hne, hr]; simp [hdB, hl, hg]
  have KE : Hid (oneE s f = nbE s d) := by show _ = _; unfold oneE; rw [hp, if_neg hne, hr]; simp [hdB, hl, hg]
  have cO := over_any s f hs hf d hp.symm
  have cN := number_any s d hs hd
  obtain ⟨T, eT⟩ : ∃ T, nbT s d = T := ⟨_, rfl⟩
  obtain ⟨E, eE⟩ : ∃ E, nbE s d = E := ⟨_, rfl⟩
  rw [eT, eE] at cN
  rw [eT] at KT
  rw [eE] at KE
  have KB : Hid (oneB s f = if E = 0 then 0 else (d : Int)) := by show _ = _; unfold oneB; rw [KE.out, hp]
  have hR : TkH ((w.alloc (.cells (tkA tk0) 49)).alloc (.cells (tkA tk0) 49)) w.heap.size tk0 := heap_fst _ _ _
  have hT : TkH ((w.alloc (.cells (tkA tk0) 49)).alloc (.cells (tkA tk0) 49)) (w.heap.size + 1) tk0 := by
    have := heap_new (w.alloc (.cells (tkA tk0) 49)) (.cells (tkA tk0) 49)
    rwa [size_alloc] at this
  have hB := below_two w (.cells (tkA tk0) 49) (.cells (tkA tk0) 49)
  have HR := hR.hid
  have HT := hT.hid
  have HB : Hid (Below w.heap.size w ((w.alloc (.cells (tkA tk0) 49)).alloc (.cells (tkA tk0) 49))) := hB
  have hd' : (d : Int) < (s.size : Int) := by omega
  have hne' : ((d : Int) == (s.size : Int)) = false := beq_false_of_ne (by omega)
  unfold tkA at cN
  clear hR hT hB hr hp eT eE
  go_enter Tryd.func44, Tryd.ntmps44
  go_wp2_with (first | (go_at_call 66; refine (cO _).mono ?_; rintro _ v ⟨rfl, e⟩; obtain rfl := e.symm) | (go_at_call 56; refine (letter_b hl _).mono ?_; rintro _ v ⟨rfl, e⟩; obtain rfl := e.symm) | (go_at_call 68; refine (digit_b hg _).mono ?_; rintro _ v ⟨rfl, e⟩; obtain rfl := e.symm))
  refine (cN _).mono ?_
  rintro _ v ⟨rfl, bb⟩
  have HR2 := (HR.out.onto bb).hid
  have HT2 := (HT.out.onto bb).hid
  have hB2 := HB.out.trans (bb.mono HB.out.size)
  obtain ⟨V, eV⟩ : ∃ V, ((((v.setCell ⟨w.heap.size + 1, 0, none⟩ (.int .u8 T.k)).setCell ⟨w.heap.size + 1, 1, none⟩ (.string T.x)).setCell ⟨w.heap.size + 1, 2, none⟩ (.int .u8 T.ty)).setCell ⟨w.heap.size + 1, 3, none⟩ (.int .i64 T.n)).setCell ⟨w.heap.size + 1, 4, none⟩ (.int .i64 T.p) = V := ⟨_, rfl⟩
  have HT3 : Hid (TkH V (w.heap.size + 1) T) := by show TkH V _ _; rw [← eV]; exact HT2.out.put T
  have HR3 : Hid (TkH V w.heap.size tk0) := by
    show TkH V _ _
    rw [← eV]
    refine Eq.trans ?_ HR2.out
    rw [Below.heap_setCell _ _ _ _ (by simp), Below.heap_setCell _ _ _ _ (by simp), Below.heap_setCell _ _ _ _ (by simp), Below.heap_setCell _ _ _ _ (by simp), Below.heap_setCell _ _ _ _ (by simp)]
  have hB4 : Below w.heap.size w V := by rw [← eV]; exact below_put hB2 (by omega) _ _ _ _ _
  obtain ⟨t0, t1, t2, t3, t4⟩ := HT2.out.cells
  obtain ⟨g0, g1, g2, g3, g4⟩ := HT2.out.froz
  clear bb hB2 HR HT HB
  by_cases hE : E = 0
  · have kB := KB.out
    rw [if_pos hE] at kB
    have hE' : (E != 0) = false := by simp [hE]
    have KE0 : Hid (oneE s f = 0) := by show _ = _; rw [KE.out, hE]
    have KB0 : Hid (oneB s f = 0) := kB
    subst hE
    clear kB KB KE
    obtain ⟨y0, y1, y2, y3, y4⟩ := HT3.out.cells
    obtain ⟨r0, r1, r2, r3, r4⟩ := HR3.out.cells
    obtain ⟨f0, f1, f2, f3, f4⟩ := HR3.out.froz
    go_wp2
    exact bodyPost_ret (results_three (p := 4) (u := 5) (v := 6) (ty := 49) rfl _ _ w.heap.size 49 (tkA T) (0, 0) _ rfl (HR3.out.put T) Tryd.underlying49 rfl (by kernel_rfl)) rfl ⟨by unfold oneV; rw [KT.out, KE0.out, KB0.out]; rfl, below_put hB4 (Nat.le_refl _) _ _ _ _ _⟩
  · have kB := KB.out
    rw [if_neg hE] at kB
    have hE' : (E != 0) = true := by simp [hE]
    have KB0 : Hid (oneB s f = (d : Int)) := kB
    clear kB KB hE
    obtain ⟨y0, y1, y2, y3, y4⟩ := HT3.out.cells
    obtain ⟨r0, r1, r2, r3, r4⟩ := HR3.out.cells
    obtain ⟨f0, f1, f2, f3, f4⟩ := HR3.out.froz
    go_wp2
    exact bodyPost_ret (results_three (p := 4) (u := 5) (v := 6) (ty := 49) rfl _ _ w.heap.size 49 (tkA T) (0, 0) _ rfl (HR3.out.put T) Tryd.underlying49 rfl (by kernel_rfl)) rfl ⟨by unfold oneV; rw [KT.out, KE.out, KB0.out]; rfl, below_put hB4 (Nat.le_refl _) _ _ _ _ _⟩

set_option maxRecDepth 100000 in
set_option maxHeartbeats 2000000 in
theorem one_mark (s : ByteArray) (f d : Nat) (hs : s.size ≤ 140737488355328) (hf : f ≤ s.size) (hp : oneP s f = d) (hd : d < s.size) (c : UInt8) (hc : s[d] = c) (hl : letB c = false) (hg : digB c = false) (w : World) :
    Calls Tryd.prog 44 #[.string s, .int .i64 f] w fun e w' => e = .returned (oneV s f) ∧ Below w.heap.size w w' := by
  have hr : rest s d = c :: rest s (d + 1) := by rw [rest_at s d hd, hc]
  have hne : ¬ d = s.size := by omega
  have KT : Hid (oneT s f = mkT s d) := by show _ = _; unfold oneT; rw [hp, if_neg hne, hr]; simp [hdB, hl, hg]
  have KE : Hid (oneE s f = mkE s d) := by show _ = _; unfold oneE; rw [hp, if_neg hne, hr]; simp [hdB, hl, hg]
  have cO := over_any s f hs hf d hp.symm
  have cN := mark_any s d hs (Nat.le_of_lt hd)
  obtain ⟨T, eT⟩ : ∃ T, mkT s d = T := ⟨_, rfl⟩
  obtain ⟨E, eE⟩ : ∃ E, mkE s d = E := ⟨_, rfl⟩
  rw [eT, eE] at cN
  rw [eT] at KT
  rw [eE] at KE
  have KB : Hid (oneB s f = if E = 0 then 0 else (d : Int)) := by show _ = _; unfold oneB; rw [KE.out, hp]
  have hR : TkH ((w.alloc (.cells (tkA tk0) 49)).alloc (.cells (tkA tk0) 49)) w.heap.size tk0 := heap_fst _ _ _
  have hT : TkH ((w.alloc (.cells (tkA tk0) 49)).alloc (.cells (tkA tk0) 49)) (w.heap.size + 1) tk0 := by
    have := heap_new (w.alloc (.cells (tkA tk0) 49)) (.cells (tkA tk0) 49)
    rwa [size_alloc] at this
  have hB := below_two w (.cells (tkA tk0) 49) (.cells (tkA tk0) 49)
  have HR := hR.hid
  have HT := hT.hid
  have HB : Hid (Below w.heap.size w ((w.alloc (.cells (tkA tk0) 49)).alloc (.cells (tkA tk0) 49))) := hB
  have hd' : (d : Int) < (s.size : Int) := by omega
  have hne' : ((d : Int) == (s.size : Int)) = false := beq_false_of_ne (by omega)
  unfold tkA at cN
  clear hR hT hB hr hp eT eE
  go_enter Tryd.func44, Tryd.ntmps44
  go_wp2_with (first | (go_at_call 66; refine (cO _).mono ?_; rintro _ v ⟨rfl, e⟩; obtain rfl := e.symm) | (go_at_call 56; refine (letter_b hl _).mono ?_; rintro _ v ⟨rfl, e⟩; obtain rfl := e.symm) | (go_at_call 68; refine (digit_b hg _).mono ?_; rintro _ v ⟨rfl, e⟩; obtain rfl := e.symm))
  refine (cN _).mono ?_
  rintro _ v ⟨rfl, bb⟩
  have HR2 := (HR.out.onto bb).hid
  have HT2 := (HT.out.onto bb).hid
  have hB2 := HB.out.trans (bb.mono HB.out.size)
  obtain ⟨V, eV⟩ : ∃ V, ((((v.setCell ⟨w.heap.size + 1, 0, none⟩ (.int .u8 T.k)).setCell ⟨w.heap.size + 1, 1, none⟩ (.string T.x)).setCell ⟨w.heap.size + 1, 2, none⟩ (.int .u8 T.ty)).setCell ⟨w.heap.size + 1, 3, none⟩ (.int .i64 T.n)).setCell ⟨w.heap.size + 1, 4, none⟩ (.int .i64 T.p) = V := ⟨_, rfl⟩
  have HT3 : Hid (TkH V (w.heap.size + 1) T) := by show TkH V _ _; rw [← eV]; exact HT2.out.put T
  have HR3 : Hid (TkH V w.heap.size tk0) := by
    show TkH V _ _
    rw [← eV]
    refine Eq.trans ?_ HR2.out
    rw [Below.heap_setCell _ _ _ _ (by simp), Below.heap_setCell _ _ _ _ (by simp), Below.heap_setCell _ _ _ _ (by simp), Below.heap_setCell _ _ _ _ (by simp), Below.heap_setCell _ _ _ _ (by simp)]
  have hB4 : Below w.heap.size w V := by rw [← eV]; exact below_put hB2 (by omega) _ _ _ _ _
  obtain ⟨t0, t1, t2, t3, t4⟩ := HT2.out.cells
  obtain ⟨g0, g1, g2, g3, g4⟩ := HT2.out.froz
  clear bb hB2 HR HT HB
  by_cases hE : E = 0
  · have kB := KB.out
    rw [if_pos hE] at kB
    have hE' : (E != 0) = false := by simp [hE]
    have KE0 : Hid (oneE s f = 0) := by show _ = _; rw [KE.out, hE]
    have KB0 : Hid (oneB s f = 0) := kB
    subst hE
    clear kB KB KE
    obtain ⟨y0, y1, y2, y3, y4⟩ := HT3.out.cells
    obtain ⟨r0, r1, r2, r3, r4⟩ := HR3.out.cells
    obtain ⟨f0, f1, f2, f3, f4⟩ := HR3.out.froz
    go_wp2
    exact bodyPost_ret (results_three (p := 4) (u := 5) (v := 6) (ty := 49) rfl _ _ w.heap.size 49 (tkA T) (0, 0) _ rfl (HR3.out.put T) Tryd.underlying49 rfl (by kernel_rfl)) rfl ⟨by unfold oneV; rw [KT.out, KE0.out, KB0.out]; rfl, below_put hB4 (Nat.le_refl _) _ _ _ _ _⟩
  · have kB := KB.out
    rw [if_neg hE] at kB
    have hE' : (E != 0) = true := by simp [hE]
    have KB0 : Hid (oneB s f = (d : Int)) := kB
    clear kB KB hE
    obtain ⟨y0, y1, y2, y3, y4⟩ := HT3.out.cells
    obtain ⟨r0, r1, r2, r3, r4⟩ := HR3.out.cells
    obtain ⟨f0, f1, f2, f3, f4⟩ := HR3.out.froz
    go_wp2
    exact bodyPost_ret (results_three (p := 4) (u := 5) (v := 6) (ty := 49) rfl _ _ w.heap.size 49 (tkA T) (0, 0) _ rfl (HR3.out.put T) Tryd.underlying49 rfl (by kernel_rfl)) rfl ⟨by unfold oneV; rw [KT.out, KE.out, KB0.out]; rfl, below_put hB4 (Nat.le_refl _) _ _ _ _ _⟩

set_option maxRecDepth 100000 in
set_option maxHeartbeats 2000000 in
theorem one_end (s : ByteArray) (f : Nat) (hs : s.size ≤ 140737488355328) (hf : f ≤ s.size) (hp : oneP s f = s.size) (w : World) :
    Calls Tryd.prog 44 #[.string s, .int .i64 f] w fun e w' => e = .returned (oneV s f) ∧ Below w.heap.size w w' := by
  have KT : Hid (oneT s f = ⟨0, ⟨#[]⟩, 0, 0, s.size⟩) := by show _ = _; unfold oneT; rw [hp, if_pos rfl]
  have KE : Hid (oneE s f = 0) := by show _ = _; unfold oneE; rw [if_pos hp]
  have KB : Hid (oneB s f = 0) := by show _ = _; unfold oneB; rw [if_pos KE.out]
  have cO := over_any s f hs hf s.size hp.symm
  go_enter Tryd.func44, Tryd.ntmps44
  go_wp2_with (go_at_call 66; refine (cO _).mono ?_; rintro _ v ⟨rfl, e⟩; obtain rfl := e.symm)
  exact bodyPost_ret (results_three (p := 4) (u := 5) (v := 6) (ty := 49) rfl _ _ w.heap.size 49 (tkA ⟨0, ⟨#[]⟩, 0, 0, s.size⟩) (0, 0) _ rfl (heap_new w _) Tryd.underlying49 rfl (by kernel_rfl)) rfl ⟨by unfold oneV; rw [KT.out, KE.out, KB.out]; rfl, below_new w _⟩
theorem oneP_le (s : ByteArray) (f : Nat) (hf : f ≤ s.size) : oneP s f ≤ s.size := by
  unfold oneP
  have := ov_le (rest s f) false
  rw [rest_len] at this
  omega
theorem one_any (s : ByteArray) (f : Nat) (hs : s.size ≤ 140737488355328) (hf : f ≤ s.size) (w : World) :
    Calls Tryd.prog 44 #[.string s, .int .i64 f] w fun e w' => e = .returned (oneV s f) ∧ Below w.heap.size w w' := by
  by_cases h : oneP s f = s.size
  · exact one_end s f hs hf h w
  · have hd : oneP s f < s.size := by have := oneP_le s f hf; omega
    cases hl : letB s[oneP s f]
    · cases hg : digB s[oneP s f]
      · exact one_mark s f _ hs hf rfl hd _ rfl hl hg w
      · exact one_num s f _ hs hf rfl hd _ rfl hl hg w
    · exact one_name s f _ hs hf rfl hd _ rfl hl w
end Go.Proofs.YtelanneckjgnbaaDoor
