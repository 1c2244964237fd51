/-
  The walk of the document's Next.
-/
import Derived.Test.YtelanneckjgnbaaDoorLxr
namespace Go.Proofs.YtelanneckjgnbaaDoor
open Go.RowKit

/-- What Next answers. -/
def nxE (s : ByteArray) (a : Int) : Int := if s.size > 4096 then 110 else if a < 0 ∨ a > s.size then 1 else oneE s a.toNat
def nxT (s : ByteArray) (a : Int) : Tk := if nxE s a = 0 then oneT s a.toNat else tk0
def nxQ (s : ByteArray) (a : Int) : Int := if nxE s a = 0 then (nxT s a).p + (nxT s a).x.size else 0
def nxV (s : ByteArray) (a : Int) : Value := .tuple #[.agg (tkA (nxT s a)), .int .i64 (nxQ s a), .int .i64 (nxE s a)]
theorem nx_bad {s : ByteArray} {a e : Int} (h : nxE s a = e) (he : e ≠ 0) : nxV s a = .tuple #[.agg (tkA tk0), .int .i64 0, .int .i64 e] := by
  unfold nxV nxQ nxT
  rw [h, if_neg he, if_neg he]
theorem nx_ok {s : ByteArray} {a : Int} {T : Tk} (h : nxE s a = 0) (hT : oneT s a.toNat = T) : nxV s a = .tuple #[.agg (tkA T), .int .i64 (T.p + T.x.size), .int .i64 0] := by
  unfold nxV nxQ nxT
  rw [h, if_pos rfl, hT, if_pos rfl]

set_option maxRecDepth 100000 in
set_option maxHeartbeats 2000000 in
theorem next_long (s : ByteArray) (a : Int) (hs : s.size ≤ 140737488355328) (h : s.size > 4096) (w : World) :
    Calls Tryd.prog 16 #[.string s, .int .i64 a] w fun e w' => e = .returned (nxV s a) ∧ Below w.heap.size w w' := by
  have hE : nxE s a = 110 := by unfold nxE; rw [if_pos h]
  have K : Hid (nxV s a = .tuple #[.agg (tkA tk0), .int .i64 0, .int .i64 110]) := nx_bad hE (by decide)
  have h' : (s.size : Int) > 4096 := by omega
  clear hE
  go_enter Tryd.func16, Tryd.ntmps16
  go_wp2
  exact bodyPost_ret (results_three (p := 4) (u := 5) (v := 6) (ty := 49) rfl _ _ w.heap.size 49 (tkA tk0) (0, 0) _ rfl (heap_new w _) Tryd.underlying49 rfl (by kernel_rfl)) rfl ⟨by rw [K.out]; rfl, below_new w _⟩
set_option maxRecDepth 100000 in
set_option maxHeartbeats 2000000 in
theorem next_out (s : ByteArray) (a : Int) (hs : s.size ≤ 140737488355328) (h : ¬ s.size > 4096) (ha : a < 0 ∨ a > s.size) (w : World) :
    Calls Tryd.prog 16 #[.string s, .int .i64 a] w fun e w' => e = .returned (nxV s a) ∧ Below w.heap.size w w' := by
  have hE : nxE s a = 1 := by unfold nxE; rw [if_neg h, if_pos ha]
  have K : Hid (nxV s a = .tuple #[.agg (tkA tk0), .int .i64 0, .int .i64 1]) := nx_bad hE (by decide)
  have h' : ¬ (s.size : Int) > 4096 := by omega
  clear hE
  go_enter Tryd.func16, Tryd.ntmps16
  by_cases h0 : a < 0
  · go_wp2
    exact bodyPost_ret (results_three (p := 4) (u := 5) (v := 6) (ty := 49) rfl _ _ w.heap.size 49 (tkA tk0) (0, 0) _ rfl (heap_new w _) Tryd.underlying49 rfl (by kernel_rfl)) rfl ⟨by rw [K.out]; rfl, below_new w _⟩
  · have h1 : a > (s.size : Int) := by omega
    go_wp2
    exact bodyPost_ret (results_three (p := 4) (u := 5) (v := 6) (ty := 49) rfl _ _ w.heap.size 49 (tkA tk0) (0, 0) _ rfl (heap_new w _) Tryd.underlying49 rfl (by kernel_rfl)) rfl ⟨by rw [K.out]; rfl, below_new w _⟩
set_option maxRecDepth 100000 in
set_option maxHeartbeats 2000000 in
theorem next_in (s : ByteArray) (f : Nat) (hs : s.size ≤ 140737488355328) (h : ¬ s.size > 4096) (hf : f ≤ s.size) (w : World) :
    Calls Tryd.prog 16 #[.string s, .int .i64 f] w fun e w' => e = .returned (nxV s f) ∧ Below w.heap.size w w' := by
  have hE : nxE s f = oneE s f := by unfold nxE; rw [if_neg h, if_neg (by omega)]; rfl
  have h' : ¬ (s.size : Int) > 4096 := by omega
  have h0 : ¬ (f : Int) < 0 := by omega
  have h1 : ¬ (f : Int) > (s.size : Int) := by omega
  have cO := one_any s f hs hf
  have hfin := one_fine s f hf
  unfold oneV at cO
  obtain ⟨T, eT⟩ : ∃ T, oneT s f = T := ⟨_, rfl⟩
  obtain ⟨E, eE⟩ : ∃ E, oneE s f = E := ⟨_, rfl⟩
  obtain ⟨B, eB⟩ : ∃ B, oneB s f = B := ⟨_, rfl⟩
  rw [eT, eE, eB] at cO
  rw [eT, eE] at hfin
  rw [eE] at hE
  have hP := oneP_le s f hf
  have hR : TkH (w.alloc (.cells (tkA tk0) 49)) w.heap.size tk0 := heap_new _ _
  have HR := hR.hid
  have HB : Hid (Below w.heap.size w (w.alloc (.cells (tkA tk0) 49))) := below_new _ _
  have HF : Hid (E = 0 → T.p = (oneP s f : Nat) ∧ f ≤ oneP s f ∧ oneP s f + T.x.size ≤ s.size ∧ (T.k ≠ 0 → 0 < T.x.size)) := hfin
  have KX : Hid (nxE s f = E) := hE
  have KT : Hid (oneT s f = T) := eT
  unfold tkA at cO
  clear hR eT eE eB hfin hE
  go_enter Tryd.func16, Tryd.ntmps16
  go_wp2_with fail
  refine (cO _).mono ?_
  rintro _ v ⟨rfl, bb⟩
  have HR2 := (HR.out.onto bb).hid
  have HB2 : Hid (Below w.heap.size w v) := HB.out.trans (bb.mono HB.out.size)
  have hlt : w.heap.size < v.heap.size := HR2.out.lt
  obtain ⟨V, eV⟩ : ∃ V, v.alloc (.cells (tkA T) 49) = V := ⟨_, rfl⟩
  have HR3 : Hid (TkH V w.heap.size tk0) := by rw [← eV]; exact heap_old HR2.out hlt
  have HB4 : Hid (Below w.heap.size w V) := by rw [← eV]; exact HB2.out.alloc (Nat.le_of_lt hlt) _
  have HT3 : Hid (TkH V v.heap.size T) := by rw [← eV]; exact heap_new _ _
  unfold tkA at eV
  have HV : Hid (v.alloc (.cells #[.int .u8 T.k, .string T.x, .int .u8 T.ty, .int .i64 T.n, .int .i64 T.p] 49) = V) := eV
  clear bb HR HB eV
  by_cases hE : E = 0
  · have hE' : (E != 0) = false := by simp [hE]
    obtain ⟨q0, q1, q2, _⟩ := HF.out hE
    have K : Hid (nxV s f = .tuple #[.agg (tkA T), .int .i64 (T.p + T.x.size), .int .i64 0]) := nx_ok (by rw [KX.out, hE]) KT.out
    subst hE
    obtain ⟨Q, eQ⟩ : ∃ Q : Int, T.p + (T.x.size : Int) = Q := ⟨_, rfl⟩
    have r1 : -9223372036854775808 ≤ Q := by omega
    have r2 : Q ≤ 9223372036854775807 := by omega
    rw [eQ] at K
    clear HF KX KT q0 q1 q2
    clear HR2
    go_wp2
    rw [HV.out]
    clear HV
    obtain ⟨y0, y1, y2, y3, y4⟩ := HT3.out.cells
    obtain ⟨r0, r1', r2', r3, r4⟩ := HR3.out.cells
    obtain ⟨f0, f1, f2, f3, f4⟩ := HR3.out.froz
    have hne : ¬ v.heap.size = w.heap.size := by omega
    have hne' : ¬ w.heap.size = v.heap.size := by omega
    go_region
    go_wp2
    exact bodyPost_ret (results_three (p := 4) (u := 5) (v := 6) (ty := 49) rfl _ _ w.heap.size 49 (tkA T) (0, 0) _ rfl (HR3.out.put T) Tryd.underlying49 rfl (by kernel_rfl)) rfl ⟨by rw [K.out]; rfl, (below_put HB4.out (Nat.le_refl _) _ _ _ _ _).drew⟩
  · have hE' : (E != 0) = true := by simp [hE]
    have K : Hid (nxV s f = .tuple #[.agg (tkA tk0), .int .i64 0, .int .i64 E]) := nx_bad KX.out hE
    clear hE HF KX KT
    obtain ⟨r0, r1, r2, r3, r4⟩ := HR2.out.cells
    obtain ⟨f0, f1, f2, f3, f4⟩ := HR2.out.froz
    go_wp2
    have HP := HR2.out.put tk0
    exact bodyPost_ret (results_three (p := 4) (u := 5) (v := 6) (ty := 49) rfl _ _ w.heap.size 49 (tkA tk0) (0, 0) _ rfl (heap_old HP HP.lt) Tryd.underlying49 rfl (by kernel_rfl)) rfl ⟨by rw [K.out]; rfl, (below_put HB2.out (Nat.le_refl _) _ _ _ _ _).alloc (Nat.le_of_lt HP.lt) _⟩
theorem next_any (s : ByteArray) (a : Int) (hs : s.size ≤ 140737488355328) (w : World) :
    Calls Tryd.prog 16 #[.string s, .int .i64 a] w fun e w' => e = .returned (nxV s a) ∧ Below w.heap.size w w' := by
  by_cases h : s.size > 4096
  · exact next_long s a hs h w
  · by_cases ha : a < 0 ∨ a > s.size
    · exact next_out s a hs h ha w
    · have e : a = ((a.toNat : Nat) : Int) := by omega
      rw [e]
      exact next_in s a.toNat hs h (by omega) w
end Go.Proofs.YtelanneckjgnbaaDoor
