/-
  The walk of the document's Begin.
-/
import Derived.Test.YtelanneckjgnbaaDoorLxa
namespace Go.Proofs.YtelanneckjgnbaaDoor
open Go.RowKit

def oneQ (s : ByteArray) (f : Nat) : Nat := oneP s f + (oneT s f).x.size
/-- The tokens from a place on, up to the end or up to what is wrong; what, and where. -/
def begO (s : ByteArray) (f : Nat) : List Tk × Int × Int :=
  if oneE s f ≠ 0 then ([], oneE s f, oneB s f)
  else if (oneT s f).k = 0 then ([oneT s f], 0, 0)
  else if _h : f < oneQ s f ∧ oneQ s f ≤ s.size then (oneT s f :: (begO s (oneQ s f)).1, (begO s (oneQ s f)).2)
  else ([], 0, 0)
termination_by s.size - f
decreasing_by all_goals omega
theorem beg_bad {s : ByteArray} {f : Nat} (h : oneE s f ≠ 0) : begO s f = ([], oneE s f, oneB s f) := by
  rw [begO, if_pos h]
theorem beg_end {s : ByteArray} {f : Nat} (h : oneE s f = 0) (hk : (oneT s f).k = 0) : begO s f = ([oneT s f], 0, 0) := by
  rw [begO, if_neg (by simp [h]), if_pos hk]
theorem beg_more {s : ByteArray} {f : Nat} (hf : f ≤ s.size) (h : oneE s f = 0) (hk : ¬ (oneT s f).k = 0) : f < oneQ s f ∧ oneQ s f ≤ s.size ∧ (oneT s f).p + ((oneT s f).x.size : Int) = (oneQ s f : Nat) ∧ begO s f = (oneT s f :: (begO s (oneQ s f)).1, (begO s (oneQ s f)).2) := by
  obtain ⟨q0, q1, q2, q3⟩ := one_fine s f hf h
  have q4 := q3 hk
  have e1 : f < oneQ s f := by unfold oneQ; omega
  have e2 : oneQ s f ≤ s.size := q2
  refine ⟨e1, e2, by rw [q0]; unfold oneQ; omega, ?_⟩
  rw [begO, if_neg (by simp [h]), if_neg hk, dif_pos ⟨e1, e2⟩]
theorem results_t3 {P : Program} {fn : Func} {p u v : Tmp} (h : fn.results = #[.tmp p, .tmp u, .tmp v]) (tmps : Array Value) (w : World) : (results fn tmps).run P w = .ok (.tuple #[tmps.getD p undef, tmps.getD u undef, tmps.getD v undef]) w := by
  simp [results, h]
set_option maxRecDepth 100000 in
set_option maxHeartbeats 2000000 in
theorem begin_any (s : ByteArray) (hs : s.size ≤ 1000000) (w : World) :
    Calls Tryd.prog 17 #[.string s] w fun e w' => ∃ v, e = .returned (.tuple #[v, .int .i64 (begO s 0).2.1, .int .i64 (begO s 0).2.2]) ∧ RL w w' v (begO s 0).1 := by
  go_enter Tryd.func17, Tryd.ntmps17
  go_wp2_with fail
  go_loopw [5, 6] (fun l i wr => ∃ (L : List Tk) (k : Nat), k ≤ s.size ∧ i = .int .i64 k ∧ L.length ≤ k ∧ RL w wr l L ∧ Hid (begO s 0 = (L ++ (begO s k).1, (begO s k).2))) (fun _ i _ => s.size - (intOf i).toNat)
  case atStart => exact ⟨[], 0, by omega, rfl, Nat.le_refl _, RL.nil w, by show _ = _; rfl⟩
  case round =>
    obtain ⟨L, k, hk, rfl, hL, hR, HG⟩ := hrel
    have cO := one_any s k (by omega) hk
    unfold oneV at cO
    obtain ⟨T, eT⟩ : ∃ T, oneT s k = T := ⟨_, rfl⟩
    obtain ⟨E, eE⟩ : ∃ E, oneE s k = E := ⟨_, rfl⟩
    obtain ⟨B, eB⟩ : ∃ B, oneB s k = B := ⟨_, rfl⟩
    rw [eT, eE, eB] at cO
    unfold tkA at cO
    have HX := hR.hid
    have KT : Hid (oneT s k = T) := eT
    have KE : Hid (oneE s k = E) := eE
    have KB : Hid (oneB s k = B) := eB
    clear hR eT eE eB
    go_wp2_with fail
    refine (cO _).mono ?_
    rintro _ v ⟨rfl, bb⟩
    have HX2 := (HX.out.call bb).hid
    clear bb HX cO
    by_cases hE : E = 0
    · have hE' : (E != 0) = false := by simp [hE]
      subst hE
      have HX3 := (HX2.out.alloc (.cells (tkA T) 49)).hid
      have HT : Hid (TkH (v.alloc (.cells (tkA T) 49)) v.heap.size T) := heap_new _ _
      have HN : Hid (∀ b, (u5 : Value).ownBlock = some b → b < v.heap.size) := HX2.out.row.lt
      by_cases hk0 : T.k = 0
      · have e0 : (T.k == 0) = true := by simp [hk0]
        have K : Hid (begO s 0 = (L ++ [T], 0, 0)) := by
          show _ = _
          rw [HG.out, beg_end KE.out (by rw [KT.out]; exact hk0), KT.out]
        clear HG KT KE KB hk0
        go_wp2_with (at_builtin; refine append_token rfl (.tmp 22) (.tmp 24) rfl T HX3.out rfl (by show Value.slice (some ⟨v.heap.size + 1, 0, none⟩) 1 1 = _; rw [size_alloc]) (by omega) ?_; intro v1 w1 hr1 hs1 hk1; have HX1 := hr1.hid; have HT1 : Hid (TkH w1 v.heap.size T) := (hk1 _ (by simp) (fun e => by have := HN.out _ e; omega)).trans HT.out; obtain ⟨y0, y1, y2, y3, y4⟩ := HT1.out.cells; clear hk1 hs1 hr1)
        exact bodyPost_ret (results_t3 (p := 2) (u := 3) (v := 4) rfl _ _) rfl ⟨_, by rw [K.out]; rfl, by rw [K.out]; exact HX1.out⟩
      · have e0 : (T.k == 0) = false := by simp [hk0]
        obtain ⟨q1, q2, q3, q4⟩ := beg_more hk KE.out (by rw [KT.out]; exact hk0)
        obtain ⟨Q, eQ⟩ : ∃ Q, oneQ s k = Q := ⟨_, rfl⟩
        rw [KT.out, eQ] at q3
        rw [KT.out, eQ] at q4
        rw [eQ] at q1 q2
        have K : Hid (begO s 0 = ((L ++ [T]) ++ (begO s Q).1, (begO s Q).2)) := by
          show _ = _
          rw [HG.out, q4]
          simp
        clear HG KT KE KB hk0 q4
        go_wp2_with (at_builtin; refine append_token rfl (.tmp 22) (.tmp 24) rfl T HX3.out rfl (by show Value.slice (some ⟨v.heap.size + 1, 0, none⟩) 1 1 = _; rw [size_alloc]) (by omega) ?_; intro v1 w1 hr1 hs1 hk1; have HX1 := hr1.hid; have HT1 : Hid (TkH w1 v.heap.size T) := (hk1 _ (by simp) (fun e => by have := HN.out _ e; omega)).trans HT.out; obtain ⟨y0, y1, y2, y3, y4⟩ := HT1.out.cells; clear hk1 hs1 hr1)
        exact ⟨⟨L ++ [T], Q, q2, by go_num, by simp; omega, HX1.out, K⟩, by simp only [intOf]; omega⟩
    · have hE' : (E != 0) = true := by simp [hE]
      have K : Hid (begO s 0 = (L, E, B)) := by
        show _ = _
        rw [HG.out, beg_bad (by rw [KE.out]; exact hE), KE.out, KB.out]
        simp
      have HX3 := (HX2.out.alloc (.cells (tkA T) 49)).hid
      clear HG KT KE KB hE
      go_wp2
      exact bodyPost_ret (results_t3 (p := 2) (u := 3) (v := 4) rfl _ _) rfl ⟨_, by rw [K.out]; rfl, by rw [K.out]; exact HX3.out⟩
end Go.Proofs.YtelanneckjgnbaaDoor
