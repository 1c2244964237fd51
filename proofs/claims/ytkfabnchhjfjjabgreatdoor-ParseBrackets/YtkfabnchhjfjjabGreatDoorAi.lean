/-
  lex.All: what its iterator hands over.
-/
import Derived.Test.YtkfabnchhjfjjabGreatDoorJa
import Derived.Test.YtkfabnchhjfjjabGreatDoorMv
import Derived.RangeFuncNested
import Derived.RangeFuncBound
import Derived.RangeFuncCalls
import Derived.RangeFuncLeaves
import Derived.Shelf.Abstract
import Derived.Shelf.RegionOpen
import Derived.OwnWalkIn
import Derived.TacticsInMore
import Derived.LoopNIn
import Derived.LoopIn
namespace Go.Proofs.YtkfabnchhjfjjabGreatDoor
open Go.RowKit Go.Shelf

attribute [local go_sem] Oper.semAt_some

/-- These blocks lie as they lay. -/
structure Kps (K : Nat → Prop) (W W' : World) : Prop where
  size : W.heap.size ≤ W'.heap.size
  block : ∀ k, K k → W'.heap[k]? = W.heap[k]?
theorem Kps.refl (K : Nat → Prop) (W : World) : Kps K W W := ⟨Nat.le_refl _, fun _ _ => rfl⟩
theorem Kps.trans {K : Nat → Prop} {A B C : World} (h : Kps K A B) (k : Kps K B C) : Kps K A C := ⟨Nat.le_trans h.size k.size, fun b hb => (k.block b hb).trans (h.block b hb)⟩
theorem Kps.of_below {K : Nat → Prop} {A B : World} (h : Below A.heap.size A B) (hK : ∀ k, K k → k < A.heap.size) : Kps K A B := ⟨h.size, fun k hk => h.block k (hK k hk)⟩
theorem Tab.of0 {w w' : World} (h : Tab w) (h0 : w'.heap[1]? = w.heap[1]?) : Tab w' := by
  unfold Tab World.var? at *
  rw [words_global] at h ⊢
  simp only [Option.bind_some] at h ⊢
  rw [h0]; exact h
theorem Tab.pos {w : World} (h : Tab w) : 1 < w.heap.size := World.block_lt_of_cell? w ⟨1, 0, none⟩ (h.cell 0 (by decide))
theorem grown_of_below {A B : World} (h : Below A.heap.size A B) : A.grownBy B none := ⟨h.os, h.tape, h.output, h.size, fun b hb _ => h.block b hb⟩
theorem range_prefix {k n : Nat} (h : k ≤ n) : List.range k <+: List.range n := by
  obtain ⟨m, rfl⟩ : ∃ m, n = k + m := ⟨n - k, by omega⟩
  rw [List.range_add]
  exact List.prefix_append _ _
def encT (L : List Tk) (k : Nat) : Array Value := #[.agg (tkA (lsF L k))]
theorem drop_head {L : List Tk} {k : Nat} {t : Tk} {R : List Tk} (h : L.drop k = t :: R) : k < L.length ∧ lsF L k = t ∧ L.drop (k + 1) = R := by
  have hk : k < L.length := by
    have := congrArg List.length h
    rw [List.length_drop, List.length_cons] at this
    omega
  rw [List.drop_eq_getElem_cons hk] at h
  refine ⟨hk, ?_, (List.cons.inj h).2⟩
  unfold lsF
  rw [List.getD_eq_getElem?_getD, List.getElem?_eq_getElem hk]
  exact (List.cons.inj h).1
def allG (s : ByteArray) (f : Nat) : List Tk := if s.size > 4096 then [] else allF s f
set_option maxRecDepth 100000 in
set_option maxHeartbeats 1000000 in
theorem all1_in (n : Nat) (hn : 1 ≤ n) (lo Bs : Nat) (s : ByteArray) (L : List Tk) (hL : L = allL s) (J Jx : List Nat → World → Prop) (W : World) (hJ : AbidesFrom W.heap.size J)
    (hY : ∀ pre x W, J pre W → pre.length < L.length → YieldAt Fence.wide (n - 1) Tryz.prog lo (encT L x) W fun e W' =>
      (e = .returned (.bool true) ∧ J (pre ++ [x]) W' ∧ Kps (fun k => k = 1 ∨ k = Bs) W W') ∨ (e = .returned (.bool false) ∧ Jx (pre ++ [x]) W'))
    (hBs : W.cell? ⟨Bs, 0, none⟩ = some (.string s)) (hT : Tab W) (h0 : J [] W) :
    CallsIn Fence.wide n Tryz.prog 73 #[.func (.yield lo) #[] #[], .pointer (some ⟨Bs, 0, none⟩)] W fun e W' => (∃ v, e = .returned v) ∧
      ((∃ ys, ys = List.range L.length ∧ J ys W') ∨ (∃ pre, pre <+: List.range L.length ∧ Jx pre W')) := by
  have hg : ∀ pre A B, J pre A → Below A.heap.size A B → J pre B := fun pre A B hA hb => hJ pre A B none hA (grown_of_below hb) (fun r e => by cases e)
  have hBl := World.block_lt_of_cell? W _ hBs
  have hG0 : Hid (L.drop 0 = allG s 0) := by show _ = _; rw [hL, List.drop_zero]; rfl
  refine callsIn_of_wp Tryz.func73 rfl trivial ?_ rfl
  simp only [Tryz.ntmps73, List.size_toArray, List.length_cons, List.length_nil, Nat.reduceAdd, Nat.reduceSub, Array.replicate_succ, Array.replicate_zero, List.push_toArray, List.append_toArray, List.nil_append, List.cons_append]
  gi_wp2_with fail
  gi_loopw [3] (fun v wr => ∃ k f : Nat, k ≤ L.length ∧ v = .int .i64 f ∧ f ≤ s.size ∧ Hid (L.drop k = allG s f) ∧ J (List.range k) wr ∧ Kps (fun k => k = 1 ∨ k = Bs) W wr) (fun v _ => s.size - (intOf v).toNat)
  case atStart => exact ⟨0, 0, by omega, rfl, by omega, hG0, h0, Kps.refl _ _⟩
  case round =>
    obtain ⟨k, f, hk, rfl, hf, HG, hJk, hkp⟩ := hrel
    have hBs' : wr.cell? ⟨Bs, 0, none⟩ = some (.string s) := (World.cell?_of_block (hkp.block Bs (.inr rfl))).trans hBs
    have hTr : Tab wr := hT.of0 (hkp.block 1 (.inl rfl))
    have cN := callsIn_wide (n := n - 1) |>.2 (nextp_any s f wr hTr)
    have hKl : ∀ k, (k = 1 ∨ k = Bs) → k < wr.heap.size := fun k hk => by
      rcases hk with e | e
      · rw [e]; exact hTr.pos
      · rw [e]; exact Nat.lt_of_lt_of_le hBl hkp.size
    unfold nxV at cN
    obtain ⟨E, eE⟩ : ∃ E, nxE s f = E := ⟨_, rfl⟩
    rw [eE] at cN
    by_cases hE : E = 0
    · have hs : ¬ s.size > 4096 := fun h => by unfold nxE at eE; rw [if_pos h] at eE; omega
      have hone : oneE s f = 0 := by unfold nxE at eE; rw [if_neg hs, if_neg (by omega)] at eE; rw [← hE, ← eE]; rfl
      obtain ⟨T, eT⟩ : ∃ T, oneT s f = T := ⟨_, rfl⟩
      have hnT : nxT s f = T := by unfold nxT; rw [eE, if_pos hE]; exact eT
      have hnQ : nxQ s f = T.p + (T.x.size : Int) := by unfold nxQ; rw [eE, if_pos hE, hnT]
      rw [hnT, hnQ] at cN
      unfold tkA at cN
      subst hE
      by_cases hk0 : T.k = 0
      · have e0 : (T.k == 0) = true := by simp [hk0]
        have hend : k = L.length := by
          have := HG.out
          unfold allG at this
          rw [if_neg hs, all_end hone (by rw [eT]; exact hk0)] at this
          have := congrArg List.length this
          rw [List.length_drop] at this
          simp at this
          omega
        gi_wp2_with (refine ⟨trivial, ?_⟩; gi_at_call 74; refine cN.mono ?_; rintro e w1 ⟨rfl, hb1⟩)
        refine ⟨fun _ h => (by cases h), ?_⟩
        gi_wp2
        refine bodyPost_ret (results_none rfl _ _ _) rfl ?_
        exact ⟨⟨_, rfl⟩, .inl ⟨_, rfl, by rw [← hend]; exact hg _ _ _ (hg _ _ _ hJk hb1) (below_new _ _)⟩⟩
      · have e0 : (T.k == 0) = false := by simp [hk0]
        obtain ⟨q1, q2, q3, q4⟩ := all_more hf hone (by rw [eT]; exact hk0)
        rw [eT] at q3 q4
        obtain ⟨Q, eQ⟩ : ∃ Q, oneQ s f = Q := ⟨_, rfl⟩
        rw [eQ] at q1 q2 q3 q4
        have hdr := HG.out
        unfold allG at hdr
        rw [if_neg hs, q4] at hdr
        obtain ⟨d1, d2, d3⟩ := drop_head hdr
        have HD3 : Hid (L.drop (k + 1) = allG s Q) := by show _ = _; rw [d3]; unfold allG; rw [if_neg hs]
        rw [q3] at cN
        have hYk := hY (List.range k) k
        unfold encT at hYk
        rw [d2] at hYk
        unfold tkA at hYk
        clear hdr HG q4 d3 eT hnT hnQ
        gi_wp2_with (refine ⟨trivial, ?_⟩; gi_at_call 74; refine cN.mono ?_; rintro e w1 ⟨rfl, hb1⟩; have hbA := hb1.trans ((below_new w1 (.cells #[.int .u8 T.k, .string T.x, .int .u8 T.ty, .int .i64 T.n, .int .i64 T.p] 33)).mono hb1.size); obtain ⟨fn, tmps, asg, body, hy, hRo⟩ := hYk _ (hg _ _ _ hJk hbA) (by simpa using d1))
        refine hRo.mono ?_
        rintro e W3 (⟨rfl, hJ3, hk3⟩ | ⟨rfl, hJx3⟩)
        · have hkp3 := (hkp.trans (Kps.of_below hbA hKl)).trans hk3
          clear hRo hy hYk
          gi_wp2
          exact ⟨⟨k + 1, Q, d1, rfl, q2, HD3, by rw [List.range_succ]; exact hJ3, hkp3⟩, by simp only [intOf]; omega⟩
        · clear hRo hy hYk
          gi_wp2
          refine bodyPost_ret (results_none rfl _ _ _) rfl ?_
          exact ⟨⟨_, rfl⟩, .inr ⟨_, by rw [← List.range_succ]; exact range_prefix d1, hJx3⟩⟩
    · have hE' : (E != 0) = true := by simp [hE]
      have hend : k = L.length := by
        have hnil : allG s f = [] := by
          unfold allG
          by_cases hs : s.size > 4096
          · rw [if_pos hs]
          · rw [if_neg hs]
            refine all_bad ?_
            unfold nxE at eE
            rw [if_neg hs, if_neg (by omega)] at eE
            intro h
            apply hE
            rw [← eE]; exact h
        have := congrArg List.length (HG.out.trans hnil)
        rw [List.length_drop] at this
        simp at this
        omega
      obtain ⟨T, eT⟩ : ∃ T, nxT s f = T := ⟨_, rfl⟩
      obtain ⟨Q, eQ⟩ : ∃ Q, nxQ s f = Q := ⟨_, rfl⟩
      rw [eT, eQ] at cN
      unfold tkA at cN
      clear eT eQ
      gi_wp2_with (refine ⟨trivial, ?_⟩; gi_at_call 74; refine cN.mono ?_; rintro e w1 ⟨rfl, hb1⟩)
      refine ⟨fun _ h => (by cases h), ?_⟩
      gi_wp2
      refine bodyPost_ret (results_none rfl _ _ _) rfl ?_
      exact ⟨⟨_, rfl⟩, .inl ⟨_, rfl, by rw [← hend]; exact hg _ _ _ (hg _ _ _ hJk hb1) (below_new _ _)⟩⟩
theorem all_any (s : ByteArray) (w : World) : Calls Tryz.prog 52 #[.string s] w fun e w' => e = .returned (.func (.func 73) #[] #[.pointer (some ⟨w.heap.size, 0, none⟩)]) ∧ w' = w.alloc (.cells #[.string s] 9) := by
  go_enter Tryz.func52, Tryz.ntmps52
  go_wp2_with fail
  go_ret
  exact ⟨rfl, rfl⟩
/-- What All hands over, round by round. -/
theorem all_stops (n : Nat) (hn : 1 ≤ n) (Bs : Nat) (s : ByteArray) (L : List Tk) (hL : L = allL s) (w : World) (hBs : w.cell? ⟨Bs, 0, none⟩ = some (.string s)) (hT : Tab w) :
    SeqStopsK Fence.wide n Tryz.prog 73 #[.pointer (some ⟨Bs, 0, none⟩)] (encT L) (Kps (fun k => k = 1 ∨ k = Bs)) (fun ys => ys = List.range L.length) (fun pre => pre <+: List.range L.length) L.length w := fun lo J Jx W hW hJ _ hY h0 =>
  all1_in n hn lo Bs s L hL J Jx W hJ hY ((hW.cell (p := ⟨Bs, 0, none⟩) (World.block_lt_of_cell? w _ hBs)).trans hBs) (hT.on hW) h0
end Go.Proofs.YtkfabnchhjfjjabGreatDoor
