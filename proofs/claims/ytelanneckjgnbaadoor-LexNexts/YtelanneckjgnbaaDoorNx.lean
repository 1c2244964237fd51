/-
  The walk of LexNexts.
-/
import Derived.Test.YtelanneckjgnbaaDoorWk
import Derived.Test.YtelanneckjgnbaaDoorLxx
namespace Go.Proofs.YtelanneckjgnbaaDoor
open Go.RowKit

set_option maxRecDepth 100000 in
set_option maxHeartbeats 4000000 in
theorem nexts_any (s : ByteArray) (a : Int) (w : World) (ht : Tab w) :
    Calls Tryd.prog 4 #[.string s, .int .i64 a] w fun e w' => e = .returned (.bool true) ∧ Below w.heap.size w w' := by
  have cW := works_any w ht
  by_cases h : s.size > 4194304
  · have h' : (s.size : Int) > 4194304 := by omega
    go_enter Tryd.func4, Tryd.ntmps4
    go_wp2_with fail
    refine cW.mono ?_
    rintro _ w1 ⟨rfl, b1⟩
    go_wp2_with fail
    go_ret
    exact ⟨rfl, b1⟩
  · have h' : ¬ (s.size : Int) > 4194304 := by omega
    have cP := nextp_any s a
    have cR := next_any s a (by omega)
    unfold nxV at cP cR
    obtain ⟨T, eT⟩ : ∃ T, nxT s a = T := ⟨_, rfl⟩
    obtain ⟨Q, eQ⟩ : ∃ Q, nxQ s a = Q := ⟨_, rfl⟩
    obtain ⟨E, eE⟩ : ∃ E, nxE s a = E := ⟨_, rfl⟩
    rw [eT, eQ, eE] at cP cR
    unfold tkA at cP cR
    clear eT eQ eE
    go_enter Tryd.func4, Tryd.ntmps4
    go_wp2_with fail
    refine cW.mono ?_
    rintro _ w1 ⟨rfl, b1⟩
    have t1 := ht.on b1
    go_wp2_with fail
    refine (cP _ t1).mono ?_
    rintro _ w2 ⟨rfl, b2⟩
    obtain ⟨V, eV⟩ : ∃ V, w2.alloc (.cells #[.int .u8 T.k, .string T.x, .int .u8 T.ty, .int .i64 T.n, .int .i64 T.p] 49) = V := ⟨_, rfl⟩
    have HY : Hid (TkH V w2.heap.size T) := by rw [← eV]; exact heap_new _ _
    have hBV : Below w.heap.size w V := by rw [← eV]; exact below2 (below2 b1 b2) (below_new _ _)
    have hVs : V.heap.size = w2.heap.size + 1 := by rw [← eV]; exact size_alloc _ _
    clear b2 cP cW
    go_wp2_with fail
    clear eV
    refine (cR _).mono ?_
    rintro _ w3 ⟨rfl, b3⟩
    have HY3 := (HY.out.onto b3).hid
    obtain ⟨U, eU⟩ : ∃ U, w3.alloc (.cells #[.int .u8 T.k, .string T.x, .int .u8 T.ty, .int .i64 T.n, .int .i64 T.p] 49) = U := ⟨_, rfl⟩
    have HY4 : Hid (TkH U w2.heap.size T) := by rw [← eU]; exact heap_old HY3.out HY3.out.lt
    have HZ4 : Hid (TkH U w3.heap.size T) := by rw [← eU]; exact heap_new _ _
    have HBU : Hid (Below w.heap.size w U) := by rw [← eU]; exact below2 (below2 hBV b3) (below_new _ _)
    clear b3 cR hBV
    obtain ⟨y0, y1, y2, y3, y4⟩ := HY4.out.cells
    obtain ⟨z0, z1, z2, z3, z4⟩ := HZ4.out.cells
    go_wp2_with fail
    go_ret
    exact ⟨rfl, HBU.out⟩
end Go.Proofs.YtelanneckjgnbaaDoor
