/-
  The walk of Feeds.
-/
import Derived.Test.YtjjmpfpbfkploaaEvl
namespace Go.Proofs.Ytjjmpfpbfkploaa
open Go.RowKit

theorem EvAt.hid {w : World} {b o : Nat} {e : Ev} (h : EvAt w b o e) : Hid (EvAt w b o e) := h
theorem TpAt.hid {w : World} {b : Nat} {e : Tp} (h : TpAt w b e) : Hid (TpAt w b e) := h

set_option maxRecDepth 100000 in
set_option maxHeartbeats 4000000 in
theorem feeds_any (s t : Tp) (c : Int) (ao : Option Addr) (len cap : Nat) (A : Nat → Ev) (w : World) (hA : Evs w ao len A) (hlen : len ≤ 268435455) :
    Calls Try.prog 20 #[.agg (tpA s), .agg (tpA t), .int .i64 c, .slice ao len cap] w fun e w' => ∃ v, e = .returned v ∧ RL w w' v (feedsL s t c A len) := by
  have hS := (TpAt.new w s 41).on (below_new (w.alloc (.cells (tpA s) 41)) (.cells (tpA t) 41)) (by rw [size_alloc]; omega)
  have hT := TpAt.new (w.alloc (.cells (tpA s) 41)) t 41
  rw [size_alloc] at hT
  have hB := below_two w (.cells (tpA s) 41) (.cells (tpA t) 41)
  have hZ : ((w.alloc (.cells (tpA s) 41)).alloc (.cells (tpA t) 41)).heap.size = w.heap.size + 2 := by rw [size_alloc, size_alloc]
  unfold tpA at *
  obtain ⟨W, hW⟩ : ∃ W, (w.alloc (.cells #[.int .i64 s.bid, .int .i64 s.ask, .int .i64 s.last, .int .i64 s.vol] 41)).alloc (.cells #[.int .i64 t.bid, .int .i64 t.ask, .int .i64 t.last, .int .i64 t.vol] 41) = W := ⟨_, rfl⟩
  rw [hW] at hS hT hB hZ
  have HS := hS.hid
  have HT := hT.hid
  clear hS hT
  go_enter Try.func20, Try.ntmps20
  go_wp2_with fail
  go_loopw [9, 15] (fun v i wr => ∃ k : Nat, k ≤ len ∧ i = .int .i64 k ∧ RL W wr v (evL c A k)) (fun _ i _ => len - (intOf i).toNat)
  case atStart => exact ⟨0, by omega, rfl, RL.nil W⟩
  case round =>
    obtain ⟨k, hk, rfl, hR⟩ := hrel
    have hl2 := evL_len c A k
    by_cases hlt : k < len
    · obtain ⟨b, off, rfl, hb, hc⟩ := hA.at (by omega)
      have hbB : Below w.heap.size w wr := hB.trans (hR.B.mono (by omega))
      have hx := (hc k hlt).on hbB hb
      obtain ⟨x, ex⟩ : ∃ x, A k = x := ⟨_, rfl⟩
      rw [ex] at hx
      obtain ⟨x0, x1, x2, x3, x4, x5, x6, x7, x8⟩ := hx
      have hlt' : (k : Int) < (len : Int) := by omega
      have cO : ∀ v, Calls Try.prog 29 #[.agg #[.int .u8 x.wh, .int .i64 x.id, .int .i64 x.ot, .int .i64 x.cl, .int .i64 x.ho, .int .u8 x.si, .int .i64 x.pr, .int .i64 x.qt, .int .i64 x.wa], .int .i64 c] v fun e w' => e = .returned (.int .i64 (chgN x c)) ∧ Below v.heap.size v w' := fun v => opened_any x c v
      have hX := hR.alloc (.cells (evA x) 70)
      have hY := EvAt.new wr x 70
      have hz := size_alloc wr (.cells (evA x) 70)
      have HN : Hid (u9.ownBlock ≠ some wr.heap.size) := fun e => by have := hR.row.lt _ e; omega
      unfold evA at hX hY hz
      obtain ⟨X, eX⟩ : ∃ X, wr.alloc (.cells #[.int .u8 x.wh, .int .i64 x.id, .int .i64 x.ot, .int .i64 x.cl, .int .i64 x.ho, .int .u8 x.si, .int .i64 x.pr, .int .i64 x.qt, .int .i64 x.wa] 70) = X := ⟨_, rfl⟩
      obtain ⟨Y, eY⟩ : ∃ Y, wr.heap.size = Y := ⟨_, rfl⟩
      rw [eX] at hX hY hz
      rw [eY] at hY hz HN
      have HL : Hid (Y < X.heap.size) := by show _ < _; omega
      have HX := hX.hid
      have HY := hY.hid
      have y0 := hY.c0
      have y1 := hY.c1
      have y2 := hY.c2
      have y3 := hY.c3
      have y4 := hY.c4
      have y5 := hY.c5
      have y6 := hY.c6
      have y7 := hY.c7
      have y8 := hY.c8
      simp only [Nat.zero_add] at y0 y1 y2 y3 y4 y5 y6 y7 y8
      clear hX hY hz hR hb hc hbB hA hB hZ HS HT
      by_cases h2 : x.wh = 2 <;> by_cases h0 : chgN x c = 0
      · have hE : Hid (evL c A (k + 1) = evL c A k ++ [⟨3, x.pr, x.qt⟩]) := evL_tf ex h2 h0
        have e2 : (x.wh == 2) = true := by simp [h2]
        obtain ⟨d, hd⟩ : ∃ d, chgN x c = d := ⟨_, rfl⟩
        rw [hd] at h0
        simp only [hd] at hE cO
        have n0 : (d != 0) = false := by simp [h0]
        clear h2 h0 hd ex
        go_wp2_with (at_builtin; refine append_feed rfl (.tmp 22) (.tmp 28) rfl ⟨3, x.pr, x.qt⟩ HX.out rfl rfl (by omega) ?_; intro v1 w1 hr1 hs1 hk1; have HX1 := hr1.hid; have hy1 := HY.out.blk (hk1 Y HL.out HN.out); have HY1 := hy1.hid; clear hk1 y0 y1 y2 y3 y4 y5 y6 y7 y8; have y0 := hy1.c0; have y1 := hy1.c1; have y2 := hy1.c2; have y3 := hy1.c3; have y4 := hy1.c4; have y5 := hy1.c5; have y6 := hy1.c6; have y7 := hy1.c7; have y8 := hy1.c8; simp only [Nat.zero_add] at y0 y1 y2 y3 y4 y5 y6 y7 y8; clear hy1 hr1 hs1)
        refine (cO _).mono ?_
        rintro _ w2 ⟨rfl, hb2⟩
        have HX2 := (HX1.out.call hb2).hid
        clear y0 y1 y2 y3 y4 y5 y6 y7 y8 hb2
        go_wp2
        exact ⟨⟨k + 1, by omega, by go_num, by rw [hE.out]; exact HX2.out⟩, by simp only [intOf]; omega⟩
      · have hE : Hid (evL c A (k + 1) = evL c A k ++ [⟨3, x.pr, x.qt⟩] ++ [⟨5, chgN x c, 0⟩]) := evL_tt ex h2 h0
        have e2 : (x.wh == 2) = true := by simp [h2]
        obtain ⟨d, hd⟩ : ∃ d, chgN x c = d := ⟨_, rfl⟩
        rw [hd] at h0
        simp only [hd] at hE cO
        have n0 : (d != 0) = true := by simp [h0]
        clear h2 h0 hd ex
        go_wp2_with (at_builtin; refine append_feed rfl (.tmp 22) (.tmp 28) rfl ⟨3, x.pr, x.qt⟩ HX.out rfl rfl (by omega) ?_; intro v1 w1 hr1 hs1 hk1; have HX1 := hr1.hid; have hy1 := HY.out.blk (hk1 Y HL.out HN.out); have HY1 := hy1.hid; clear hk1 y0 y1 y2 y3 y4 y5 y6 y7 y8; have y0 := hy1.c0; have y1 := hy1.c1; have y2 := hy1.c2; have y3 := hy1.c3; have y4 := hy1.c4; have y5 := hy1.c5; have y6 := hy1.c6; have y7 := hy1.c7; have y8 := hy1.c8; simp only [Nat.zero_add] at y0 y1 y2 y3 y4 y5 y6 y7 y8; clear hy1 hr1 hs1)
        refine (cO _).mono ?_
        rintro _ w2 ⟨rfl, hb2⟩
        have HX2 := (HX1.out.call hb2).hid
        clear y0 y1 y2 y3 y4 y5 y6 y7 y8 hb2
        go_wp2_with (at_builtin; refine append_feed rfl (.tmp 35) (.tmp 38) rfl ⟨5, d, 0⟩ HX2.out rfl rfl (by first | omega | (simp only [List.length_append, List.length_singleton]; omega)) ?_; intro v3 w3 hr3 hs3 hk3; have HX3 := hr3.hid; clear hk3 hs3 hr3)
        exact ⟨⟨k + 1, by omega, by go_num, by rw [hE.out]; exact HX3.out⟩, by simp only [intOf]; omega⟩
      · have hE : Hid (evL c A (k + 1) = evL c A k) := evL_ff ex h2 h0
        have e2 : (x.wh == 2) = false := beq_false_of_ne h2
        obtain ⟨d, hd⟩ : ∃ d, chgN x c = d := ⟨_, rfl⟩
        rw [hd] at h0
        simp only [hd] at hE cO
        have n0 : (d != 0) = false := by simp [h0]
        clear h2 h0 hd ex
        have HX1 := HX
        go_wp2_with fail
        refine (cO _).mono ?_
        rintro _ w2 ⟨rfl, hb2⟩
        have HX2 := (HX1.out.call hb2).hid
        clear y0 y1 y2 y3 y4 y5 y6 y7 y8 hb2
        go_wp2
        exact ⟨⟨k + 1, by omega, by go_num, by rw [hE.out]; exact HX2.out⟩, by simp only [intOf]; omega⟩
      · have hE : Hid (evL c A (k + 1) = evL c A k ++ [⟨5, chgN x c, 0⟩]) := evL_ft ex h2 h0
        have e2 : (x.wh == 2) = false := beq_false_of_ne h2
        obtain ⟨d, hd⟩ : ∃ d, chgN x c = d := ⟨_, rfl⟩
        rw [hd] at h0
        simp only [hd] at hE cO
        have n0 : (d != 0) = true := by simp [h0]
        clear h2 h0 hd ex
        have HX1 := HX
        go_wp2_with fail
        refine (cO _).mono ?_
        rintro _ w2 ⟨rfl, hb2⟩
        have HX2 := (HX1.out.call hb2).hid
        clear y0 y1 y2 y3 y4 y5 y6 y7 y8 hb2
        go_wp2_with (at_builtin; refine append_feed rfl (.tmp 35) (.tmp 38) rfl ⟨5, d, 0⟩ HX2.out rfl rfl (by first | omega | (simp only [List.length_append, List.length_singleton]; omega)) ?_; intro v3 w3 hr3 hs3 hk3; have HX3 := hr3.hid; clear hk3 hs3 hr3)
        exact ⟨⟨k + 1, by omega, by go_num, by rw [hE.out]; exact HX3.out⟩, by simp only [intOf]; omega⟩
    · obtain rfl : k = len := by omega
      have hnot : ¬ (k : Int) < (k : Int) := by omega
      have hS := HS.out.on hR.B (by omega)
      have hT := HT.out.on hR.B (by omega)
      have HX := hR.hid
      have HS2 := hS.hid
      have HT2 := hT.hid
      have s0 := hS.c0; have s1 := hS.c1
      have t0 := hT.c0; have t1 := hT.c1
      have HB : Hid (∀ {v' w'} {L : List Fd}, RL W w' v' L → RL w w' v' L) := fun h => ⟨h.row, fun k hk => by have := h.nb k hk; omega, hB.trans (h.B.mono (by omega))⟩
      have HQ : Hid (W.heap.size = w.heap.size + 2) := hZ
      have HK : Hid (∀ w' {v' : Value} {L : List Fd}, RL W w' v' L → w'.cell? ⟨w.heap.size, 1, none⟩ = some (.int .i64 s.ask) ∧ w'.cell? ⟨w.heap.size + 1, 1, none⟩ = some (.int .i64 t.ask)) := fun w' v' L h => ⟨(HS.out.on h.B (by omega)).c1, (HT.out.on h.B (by omega)).c1⟩
      have mk : Hid True := trivial
      clear hR hS hT HS HT hA hB hZ
      by_cases hb : t.bid = s.bid <;> by_cases ha : t.ask = s.ask
      · have hF : Hid (feedsL s t c A k = evL c A k) := by
          show _ = _
          unfold feedsL topL
          rw [if_pos hb, if_pos ha]
          all_goals simp
        have eb : (t.bid != s.bid) = false := by simp [hb]
        have ea : (t.ask != s.ask) = false := by simp [ha]
        clear hb ha
        go_wp2
        go_ret
        exact ⟨_, rfl, by rw [hF.out]; exact HB.out HX.out⟩
      · have hF : Hid (feedsL s t c A k = evL c A k ++ [⟨2, t.ask, 0⟩]) := by
          show _ = _
          unfold feedsL topL
          rw [if_pos hb, if_neg ha]
          all_goals simp
        have eb : (t.bid != s.bid) = false := by simp [hb]
        have ea : (t.ask != s.ask) = true := by simp [ha]
        clear hb ha
        go_wp2_with (at_builtin; refine append_feed rfl (.tmp 57) (.tmp 61) rfl ⟨2, t.ask, 0⟩ HX.out rfl rfl (by omega) ?_; intro v1 w1 hr1 hs1 hk1; have HX1 := hr1.hid; clear hk1 hs1 hr1)
        go_ret
        exact ⟨_, rfl, by rw [hF.out]; exact HB.out HX1.out⟩
      · have hF : Hid (feedsL s t c A k = evL c A k ++ [⟨1, t.bid, 0⟩]) := by
          show _ = _
          unfold feedsL topL
          rw [if_neg hb, if_pos ha]
          all_goals simp
        have eb : (t.bid != s.bid) = true := by simp [hb]
        have ea : (t.ask != s.ask) = false := by simp [ha]
        clear hb ha
        go_wp2_with (at_builtin; refine append_feed rfl (.tmp 46) (.tmp 50) rfl ⟨1, t.bid, 0⟩ HX.out rfl rfl (by omega) ?_; intro v1 w1 hr1 hs1 hk1; have HX1 := hr1.hid; have hS1 := HK.out w1 hr1; obtain ⟨s1, t1⟩ := hS1; clear hk1 hs1 hr1)
        go_ret
        exact ⟨_, rfl, by rw [hF.out]; exact HB.out HX1.out⟩
      · have hF : Hid (feedsL s t c A k = evL c A k ++ [⟨1, t.bid, 0⟩] ++ [⟨2, t.ask, 0⟩]) := by
          show _ = _
          unfold feedsL topL
          rw [if_neg hb, if_neg ha]
          all_goals simp
        have eb : (t.bid != s.bid) = true := by simp [hb]
        have ea : (t.ask != s.ask) = true := by simp [ha]
        clear hb ha
        go_wp2_with (at_builtin; first | (clear mk; refine append_feed rfl (.tmp 46) (.tmp 50) rfl ⟨1, t.bid, 0⟩ HX.out rfl rfl (by omega) ?_; intro v1 w1 hr1 hs1 hk1; have HX1 := hr1.hid; have hS1 := HK.out w1 hr1; obtain ⟨s1, t1⟩ := hS1; clear hk1 hs1 hr1) | (refine append_feed rfl (.tmp 57) (.tmp 61) rfl ⟨2, t.ask, 0⟩ HX1.out rfl rfl (by first | omega | (simp only [List.length_append, List.length_singleton]; omega)) ?_; intro v2 w2 hr2 hs2 hk2; have HX2 := hr2.hid; clear hk2 hs2 hr2))
        go_ret
        exact ⟨_, rfl, by rw [hF.out]; exact HB.out HX2.out⟩
end Go.Proofs.Ytjjmpfpbfkploaa
