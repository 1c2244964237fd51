/-
  The walk of lex.word.
-/
import Derived.Test.YtighocmdlifheaaDoorPa
namespace Go.Proofs.YtighocmdlifheaaDoor
open Go.RowKit

/-- What is told of what is no token: its place alone. -/
def tkP (a : Nat) : Tk := ⟨0, ⟨#[]⟩, 0, 0, a⟩
/-- The program's word or name at a place. -/
def pnT (s : ByteArray) (a : Nat) : Tk := if nmE s a = 0 then nmT s a else tkP a
set_option maxRecDepth 100000 in
set_option maxHeartbeats 2000000 in
theorem wordp_any (s : ByteArray) (a : Nat) (hs : s.size ≤ 140737488355328) (ha : a ≤ s.size) (w : World) (ht : Tab w) :
    Calls Tryd.prog 83 #[.string s, .int .i64 a] w fun e w' => e = .returned (.tuple #[.agg (tkA (pnT s a)), .int .i64 (nmE s a)]) ∧ Below w.heap.size w w' := by
  obtain ⟨d, hd⟩ : ∃ d, a + lead goB (rest s a) = d := ⟨_, rfl⟩
  have hd1 : a ≤ d := by omega
  have hd2 : d ≤ s.size := by have := lead_le goB (rest s a); rw [rest_len] at this; omega
  have HT : Hid (nmT s a = if d - a > 16 then tk0 else ⟨if isW (s.extract a d) = true then 1 else 2, s.extract a d, 0, 0, a⟩) := by show _ = _; unfold nmT; rw [hd, show lead goB (rest s a) = d - a by omega]
  have HE : Hid (nmE s a = if d - a > 16 then 112 else 0) := by show _ = _; unfold nmE; rw [show lead goB (rest s a) = d - a by omega]
  have HD : Hid (d = a + lead goB (rest s a)) := hd.symm
  have hS0 : (w.alloc (.cells #[.string s] 9)).heap[w.heap.size]? = some (.cells #[.string s] 9 (0, 0)) := heap_new w _
  have hB0 := below_two w (.cells #[.string s] 9) (.cells (tkA tk0) 160)
  have hR0 : TkH ((w.alloc (.cells #[.string s] 9)).alloc (.cells (tkA tk0) 160)) (w.heap.size + 1) tk0 := by rw [← size_alloc w (.cells #[.string s] 9)]; exact heap_new _ _
  have hS1 : ((w.alloc (.cells #[.string s] 9)).alloc (.cells (tkA tk0) 160)).heap[w.heap.size]? = some (.cells #[.string s] 9 (0, 0)) := heap_old hS0 (by rw [size_alloc]; omega)
  have hz0 : ((w.alloc (.cells #[.string s] 9)).alloc (.cells (tkA tk0) 160)).heap.size = w.heap.size + 2 := by rw [size_alloc, size_alloc]
  have hT0 := ht.on hB0
  obtain ⟨W, eW⟩ : ∃ W, (w.alloc (.cells #[.string s] 9)).alloc (.cells (tkA tk0) 160) = W := ⟨_, rfl⟩
  rw [eW] at hB0 hR0 hS1 hz0 hT0
  have hc := cell_of hS1 0
  have HRR := hR0.hid
  have HTab := hT0.hid
  have HB : Hid (Below w.heap.size w W) := hB0
  have cR := reachW_any s a w.heap.size hs ha W hc d HD
  unfold tkA tk0 at eW
  dsimp only at eW
  clear hd ht hS0 hS1 hT0 hR0 hB0 HD
  go_enter Tryd.func83, Tryd.ntmps83
  go_wp2_with fail
  clear eW
  refine cR.mono ?_
  rintro _ v ⟨rfl, e⟩
  obtain rfl := e.symm
  clear cR
  by_cases h16 : d - a > 16
  · have h16' : (16 : Int) < (d : Int) - (a : Int) := by omega
    have KE : Hid (nmE s a = 112) := by show _ = _; rw [HE.out, if_pos h16]
    have KT : Hid (pnT s a = tkP a) := by show _ = _; unfold pnT; rw [KE.out, if_neg (by decide)]
    obtain ⟨r0, r1, r2, r3, r4⟩ := HRR.out.cells
    obtain ⟨f0, f1, f2, f3, f4⟩ := HRR.out.froz
    clear HT HE
    go_wp2_with fail
    exact bodyPost_ret (results_two (p := 4) (u := 5) (ty := 160) rfl _ _ (w.heap.size + 1) 160 (tkA (tkP a)) (0, 0) _ rfl (HRR.out.put (tkP a)) Tryd.underlying160 rfl (by kernel_rfl)) rfl ⟨by rw [KT.out, KE.out]; rfl, below_put HB.out (by omega) _ _ _ _ _⟩
  · have h16' : ¬ (16 : Int) < (d : Int) - (a : Int) := by omega
    have KE : Hid (nmE s a = 0) := by show _ = _; rw [HE.out, if_neg h16]
    obtain ⟨x, ex⟩ : ∃ x, s.extract a d = x := ⟨_, rfl⟩
    have KT : Hid (pnT s a = ⟨if isW x = true then 1 else 2, x, 0, 0, a⟩) := by show _ = _; unfold pnT; rw [KE.out, if_pos rfl, HT.out, if_neg h16, ex]
    have hY : TkH (W.alloc (.cells (tkA ⟨2, x, 0, 0, a⟩) 160)) W.heap.size ⟨2, x, 0, 0, a⟩ := heap_new W _
    rw [hz0] at hY
    have hR : TkH (W.alloc (.cells (tkA ⟨2, x, 0, 0, a⟩) 160)) (w.heap.size + 1) tk0 := heap_old HRR.out HRR.out.lt
    have hB2 := HB.out.alloc HB.out.size (.cells (tkA ⟨2, x, 0, 0, a⟩) 160)
    have hT2 := HTab.out.on (below_new W (.cells (tkA ⟨2, x, 0, 0, a⟩) 160))
    obtain ⟨V, eV⟩ : ∃ V, W.alloc (.cells (tkA ⟨2, x, 0, 0, a⟩) 160) = V := ⟨_, rfl⟩
    rw [eV] at hY hR hB2 hT2
    have HY := hY.hid
    have HR2 := hR.hid
    have HB2 : Hid (Below w.heap.size w V) := hB2
    have cW := wordP_any x V hT2
    unfold tkA at eV
    dsimp only at eV
    clear HT HE hY hR hB2 hT2
    obtain ⟨z0, z1, z2, z3, z4⟩ := HY.out.cells
    go_wp2_with fail
    clear eV
    refine cW.mono ?_
    rintro _ v ⟨rfl, e⟩
    obtain rfl := e.symm
    clear cW
    cases hw : isW x
    · have KT2 : Hid (pnT s a = ⟨2, x, 0, 0, a⟩) := by show _ = _; rw [KT.out, hw]; rfl
      obtain ⟨r0, r1, r2, r3, r4⟩ := HR2.out.cells
      obtain ⟨f0, f1, f2, f3, f4⟩ := HR2.out.froz
      clear KT
      go_wp2_with fail
      exact bodyPost_ret (results_two (p := 4) (u := 5) (ty := 160) rfl _ _ (w.heap.size + 1) 160 (tkA ⟨2, x, 0, 0, a⟩) (0, 0) _ rfl (HR2.out.put ⟨2, x, 0, 0, a⟩) Tryd.underlying160 rfl (by kernel_rfl)) rfl ⟨by rw [KT2.out, KE.out]; rfl, below_put HB2.out (by omega) _ _ _ _ _⟩
    · have KT2 : Hid (pnT s a = ⟨1, x, 0, 0, a⟩) := by show _ = _; rw [KT.out, hw]; rfl
      obtain ⟨U, eU⟩ : ∃ U, V.setCell ⟨w.heap.size + 2, 0, none⟩ (.int .u8 1) = U := ⟨_, rfl⟩
      have HY3 : Hid (TkH U (w.heap.size + 2) ⟨1, x, 0, 0, a⟩) := by show TkH U _ _; rw [← eU]; exact heap_set _ HY.out
      have HR3 : Hid (TkH U (w.heap.size + 1) tk0) := by show TkH U _ _; rw [← eU]; exact (Below.heap_setCell _ _ _ _ (by simp)).trans HR2.out
      have hB4 : Below w.heap.size w U := by rw [← eU]; exact HB2.out.setCell (p := ⟨w.heap.size + 2, 0, none⟩) (by simp) _
      obtain ⟨g0, g1, g2, g3, g4⟩ := HY.out.froz
      obtain ⟨y0, y1, y2, y3, y4⟩ := HY3.out.cells
      obtain ⟨r0, r1, r2, r3, r4⟩ := HR3.out.cells
      obtain ⟨f0, f1, f2, f3, f4⟩ := HR3.out.froz
      clear KT
      go_wp2_with fail
      exact bodyPost_ret (results_two (p := 4) (u := 5) (ty := 160) rfl _ _ (w.heap.size + 1) 160 (tkA ⟨1, x, 0, 0, a⟩) (0, 0) _ rfl (HR3.out.put ⟨1, x, 0, 0, a⟩) Tryd.underlying160 rfl (by kernel_rfl)) rfl ⟨by rw [KT2.out, KE.out]; rfl, below_put hB4 (by omega) _ _ _ _ _⟩
end Go.Proofs.YtighocmdlifheaaDoor
