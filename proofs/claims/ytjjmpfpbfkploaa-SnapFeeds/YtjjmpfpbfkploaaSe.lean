/-
  The walk of SnapFeeds.
-/
import Derived.Test.YtjjmpfpbfkploaaWorks
import Derived.Test.YtjjmpfpbfkploaaRfds
import Derived.Test.YtjjmpfpbfkploaaLentE
import Derived.Test.YtjjmpfpbfkploaaBk
namespace Go.Proofs.Ytjjmpfpbfkploaa
open Go.RowKit

/-- The two tops, in blocks of their own. -/
structure T2 (w v : World) (s t : Tp) : Prop where
  S : TpAt v w.heap.size s
  T : TpAt v (w.heap.size + 1) t
  h : w.heap.size + 1 < v.heap.size
  B : Below w.heap.size w v
theorem T2.step {w v v' : World} {s t : Tp} (h : T2 w v s t) (k : Below v.heap.size v v') : T2 w v' s t :=
  ⟨h.S.on k (by have := h.h; omega), h.T.on k h.h, Nat.lt_of_lt_of_le h.h k.size, h.B.trans (k.mono h.B.size)⟩
theorem T2.hid {w v : World} {s t : Tp} (h : T2 w v s t) : Hid (T2 w v s t) := h
theorem Evs.on {w w' : World} {ao : Option Addr} {len : Nat} {A : Nat → Ev} (h : Evs w ao len A) (k : Below w.heap.size w w') : Evs w' ao len A := Lie.on h k
theorem Evs.hid {w : World} {ao : Option Addr} {len : Nat} {A : Nat → Ev} (h : Evs w ao len A) : Hid (Evs w ao len A) := h
theorem sameE_evs {w : World} {a1 a2 : Option Addr} {len c1 c2 : Nat} {A : Nat → Ev} (h1 : Evs w a1 len A) (h2 : Evs w a2 len A) (hmax : len ≤ 1099511627776) :
    Calls Try.prog 30 #[.slice a1 len c1, .slice a2 len c2] w fun e w' => e = .returned (.bool true) ∧ ∃ n, w' = w.drewN n := by
  by_cases h0 : len = 0
  · subst h0
    exact sameE_none a1 a2 c1 c2 w
  · obtain ⟨b1, o1, rfl, _, k1⟩ := h1.at (by omega)
    obtain ⟨b2, o2, rfl, _, k2⟩ := h2.at (by omega)
    exact sameE_any b1 o1 c1 b2 o2 c2 len A w hmax k1 k2
theorem sameF_rl {W W' w : World} {v u : Value} {L : List Fd} (h1 : RL W w v L) (h2 : RL W' w u L) (hmax : L.length ≤ 1099511627776) :
    Calls Try.prog 23 #[v, u] w fun e w' => e = .returned (.bool true) ∧ ∃ n, w' = w.drewN n := by
  obtain ⟨a1, c1, rfl, k1, _⟩ := h1.fds
  obtain ⟨a2, c2, rfl, k2, _⟩ := h2.fds
  by_cases h0 : L.length = 0
  · rw [h0]
    exact sameF_none a1 a2 c1 c2 w
  · obtain ⟨g1, rfl, _, m1⟩ := k1 (by omega)
    obtain ⟨g2, rfl, _, m2⟩ := k2 (by omega)
    exact sameF_any g1 0 c1 g2 0 c2 L.length (lsF L) w hmax m1 m2
theorem feedsL_len (s t : Tp) (c : Int) (A : Nat → Ev) (len : Nat) : (feedsL s t c A len).length ≤ 2 * len + 2 := by
  unfold feedsL
  have h := evL_len c A len
  have h1 : (topL 1 s.bid t.bid).length ≤ 1 := by unfold topL; split <;> simp
  have h2 : (topL 2 s.ask t.ask).length ≤ 1 := by unfold topL; split <;> simp
  rw [List.length_append, List.length_append]
  omega
theorem below_D {w v : World} {n : Nat} (e : v = w.drewN n) : Below w.heap.size w v := by rw [e]; exact below_drew (Below.refl _ _) n
theorem Mv.ofBelow {w v : World} (h : Below w.heap.size w v) : Mv w v (fun _ => False) := ⟨h.os, h.tape, h.output, h.size, fun b hb _ => h.block b hb⟩

set_option maxRecDepth 100000 in
set_option maxHeartbeats 4000000 in
theorem sfeeds_long (s t : Tp) (c : Int) (ao : Option Addr) (len cap : Nat) (w : World) (hlen : 33554431 < len) (hmax : len ≤ 9223372036854775807) :
    Calls Try.prog 4 #[.agg (tpA s), .agg (tpA t), .int .i64 c, .slice ao len cap] w fun e w' => e = .returned (.bool true) ∧ Below w.heap.size w w' := by
  have hB := below_two w (.cells (tpA s) 41) (.cells (tpA t) 41)
  unfold tpA at hB ⊢
  obtain ⟨W, hW⟩ : ∃ W, (w.alloc (.cells #[.int .i64 s.bid, .int .i64 s.ask, .int .i64 s.last, .int .i64 s.vol] 41)).alloc (.cells #[.int .i64 t.bid, .int .i64 t.ask, .int .i64 t.last, .int .i64 t.vol] 41) = W := ⟨_, rfl⟩
  rw [hW] at hB
  have hl' : (33554431 : Int) < (len : Int) := by omega
  go_enter Try.func4, Try.ntmps4
  go_wp2_with fail
  refine (works_any _).mono ?_
  rintro _ v0 ⟨rfl, bb⟩
  go_wp2
  go_ret
  exact ⟨rfl, hB.trans (bb.mono hB.size)⟩

set_option maxRecDepth 100000 in
set_option maxHeartbeats 4000000 in
theorem sfeeds_short (s t : Tp) (c : Int) (ao : Option Addr) (len cap : Nat) (A : Nat → Ev) (w : World) (hA : Evs w ao len A) (hn : ao = none → len = 0 ∧ cap = 0) (hlen : len ≤ 33554431) :
    Calls Try.prog 4 #[.agg (tpA s), .agg (tpA t), .int .i64 c, .slice ao len cap] w fun e w' => e = .returned (.bool true) ∧ Below w.heap.size w w' := by
  have HA := hA.hid
  have HN : Hid (ao = none → len = 0 ∧ cap = 0) := hn
  clear hA hn
  have hT : T2 w ((w.alloc (.cells (tpA s) 41)).alloc (.cells (tpA t) 41)) s t := ⟨(TpAt.new w s 41).on (below_new (w.alloc (.cells (tpA s) 41)) (.cells (tpA t) 41)) (by rw [size_alloc]; omega), (by have := TpAt.new (w.alloc (.cells (tpA s) 41)) t 41; rwa [size_alloc] at this), by rw [size_alloc, size_alloc]; omega, below_two _ _ _⟩
  have c1 := fun ao cap v h => feeds_any s t c ao len cap A v h (by omega)
  have c2 := fun v h => rfeeds_any s t c ao len cap A v h (by omega)
  have hLn := feedsL_len s t c A len
  obtain ⟨L, eL⟩ : ∃ L, feedsL s t c A len = L := ⟨_, rfl⟩
  rw [eL] at c1 c2 hLn
  have HC1 : Hid (∀ (ao : Option Addr) (cap : Nat) (v : World), Evs v ao len A → Calls Try.prog 20 #[.agg #[.int .i64 s.bid, .int .i64 s.ask, .int .i64 s.last, .int .i64 s.vol], .agg #[.int .i64 t.bid, .int .i64 t.ask, .int .i64 t.last, .int .i64 t.vol], .int .i64 c, .slice ao len cap] v fun e w' => ∃ u, e = .returned u ∧ RL v w' u L) := c1
  have HC2 : Hid (∀ (v : World), Evs v ao len A → Calls Try.prog 22 #[.agg #[.int .i64 s.bid, .int .i64 s.ask, .int .i64 s.last, .int .i64 s.vol], .agg #[.int .i64 t.bid, .int .i64 t.ask, .int .i64 t.last, .int .i64 t.vol], .int .i64 c, .slice ao len cap] v fun e w' => ∃ u, e = .returned u ∧ RL v w' u L) := c2
  clear c1 c2 eL
  unfold tpA at hT ⊢
  obtain ⟨W, hW⟩ : ∃ W, (w.alloc (.cells #[.int .i64 s.bid, .int .i64 s.ask, .int .i64 s.last, .int .i64 s.vol] 41)).alloc (.cells #[.int .i64 t.bid, .int .i64 t.ask, .int .i64 t.last, .int .i64 t.vol] 41) = W := ⟨_, rfl⟩
  rw [hW] at hT
  have HT := hT.hid
  clear hT
  have hl' : ¬ (33554431 : Int) < (len : Int) := by omega
  go_enter Try.func4, Try.ntmps4
  go_wp2_with fail
  refine (works_any _).mono ?_
  rintro _ v0 ⟨rfl, bb⟩
  replace HT := (HT.out.step bb).hid
  clear bb hW
  go_wp2_with fail
  refine (lentE_at ao len cap (evF A) _ (HA.out.on HT.out.B) (evF_one A) HN.out (by omega)).mono ?_
  rintro _ v1 ⟨rfl, hsz, hlie, hmk, bb⟩
  obtain ⟨B, eB⟩ : ∃ B, v0.heap.size = B := ⟨_, rfl⟩
  rw [eB] at hlie hmk hsz ⊢
  replace HT := (HT.out.step bb).hid
  have HSZ : Hid (w.heap.size ≤ v1.heap.size) := HT.out.B.size
  have HO : Hid (Evs v1 (some ⟨B, 0, none⟩) len A) := hlie
  have HZ : Hid (B < v1.heap.size) := hsz
  have HM : Hid (_) := hmk
  clear bb hlie hmk hsz eB
  have s0 := HT.out.S.c0; have s1 := HT.out.S.c1; have s2 := HT.out.S.c2; have s3 := HT.out.S.c3
  have t0 := HT.out.T.c0; have t1 := HT.out.T.c1; have t2 := HT.out.T.c2; have t3 := HT.out.T.c3
  go_wp2_with fail
  refine (HC1.out _ _ _ HO.out).mono ?_
  rintro _ v2 ⟨vx, rfl, hx⟩
  have b12 := hx.B
  replace HT := (HT.out.step b12).hid
  clear s0 s1 s2 s3 t0 t1 t2 t3
  have s0 := HT.out.S.c0; have s1 := HT.out.S.c1; have s2 := HT.out.S.c2; have s3 := HT.out.S.c3
  have t0 := HT.out.T.c0; have t1 := HT.out.T.c1; have t2 := HT.out.T.c2; have t3 := HT.out.T.c3
  go_wp2_with fail
  refine (HC1.out _ _ _ (HO.out.on b12)).mono ?_
  rintro _ v3 ⟨vy, rfl, hy⟩
  have b23 := hy.B
  replace HT := (HT.out.step b23).hid
  have b13 : Below v1.heap.size v1 v3 := b12.trans (b23.mono b12.size)
  have HS1 : Hid (w.heap.size ≤ v1.heap.size ∧ w.heap.size ≤ v2.heap.size) := ⟨HSZ.out, Nat.le_trans HSZ.out b12.size⟩
  clear HSZ
  have HX := (hx.call b23).hid
  have HY := hy.hid
  have HD : Hid (∀ b, vx.ownBlock = some b → vy.ownBlock ≠ some b) := fun b hb hb' => by
    have h1 := hx.row.lt b hb
    have h2 := hy.nb b hb'
    omega
  clear s0 s1 s2 s3 t0 t1 t2 t3 hx hy b12
  go_wp2_with fail
  obtain ⟨m0, m1, m2, m3, m4, m5, m6, m7, m8, m9, m10, m11, m12, m13, m14, m15, m16, m17⟩ := HM.out
  refine (wholeE_any B ao cap len _ (by omega) (sameE_evs (HO.out.on b13) (HA.out.on HT.out.B) (by omega)) ⟨(b13.cell HZ.out).trans m0, (b13.cell HZ.out).trans m1, (b13.cell HZ.out).trans m2, (b13.cell HZ.out).trans m3, (b13.cell HZ.out).trans m4, (b13.cell HZ.out).trans m5, (b13.cell HZ.out).trans m6, (b13.cell HZ.out).trans m7, (b13.cell HZ.out).trans m8, (b13.cell HZ.out).trans m9, (b13.cell HZ.out).trans m10, (b13.cell HZ.out).trans m11, (b13.cell HZ.out).trans m12, (b13.cell HZ.out).trans m13, (b13.cell HZ.out).trans m14, (b13.cell HZ.out).trans m15, (b13.cell HZ.out).trans m16, (b13.cell HZ.out).trans m17⟩).mono ?_
  rintro _ v4 ⟨rfl, n4, e4⟩
  have b34 := below_D e4
  replace HT := (HT.out.step b34).hid
  replace HX := (HX.out.call b34).hid
  replace HY := (HY.out.call b34).hid
  clear m0 m1 m2 m3 m4 m5 m6 m7 m8 m9 m10 m11 m12 m13 m14 m15 m16 m17 b13 b23 HM HO HZ e4 b34 HC1
  have s0 := HT.out.S.c0; have s1 := HT.out.S.c1; have s2 := HT.out.S.c2; have s3 := HT.out.S.c3
  have t0 := HT.out.T.c0; have t1 := HT.out.T.c1; have t2 := HT.out.T.c2; have t3 := HT.out.T.c3
  go_wp2_with fail
  refine (HC2.out _ (HA.out.on HT.out.B)).mono ?_
  rintro _ v5 ⟨vw, rfl, hw⟩
  have b45 := hw.B
  replace HT := (HT.out.step b45).hid
  replace HX := (HX.out.call b45).hid
  replace HY := (HY.out.call b45).hid
  have HW := hw.hid
  clear s0 s1 s2 s3 t0 t1 t2 t3 hw b45 HC2 HA
  go_wp2_with fail
  refine (sameF_rl HX.out HW.out (by omega)).mono ?_
  rintro _ v6 ⟨rfl, n6, e6⟩
  have b56 := below_D e6
  replace HT := (HT.out.step b56).hid
  replace HX := (HX.out.call b56).hid
  replace HY := (HY.out.call b56).hid
  replace HW := (HW.out.call b56).hid
  clear e6 b56
  go_wp2_with fail
  refine (sameF_rl HY.out HW.out (by omega)).mono ?_
  rintro _ v7 ⟨rfl, n7, e7⟩
  have b67 := below_D e7
  replace HT := (HT.out.step b67).hid
  replace HX := (HX.out.call b67).hid
  replace HY := (HY.out.call b67).hid
  clear e7 b67 HW
  have bn := below_new v7 (.cells (bkA (.slice none 0 0)) 60)
  have HK : Hid (BkH (v7.alloc (.cells (bkA (.slice none 0 0)) 60)) v7.heap.size (.slice none 0 0)) := heap_new v7 _
  replace HX := (HX.out.call bn).hid
  replace HY := (HY.out.call bn).hid
  have HB : Hid (Below w.heap.size w (v7.alloc (.cells (bkA (.slice none 0 0)) 60)) ∧ w.heap.size ≤ v7.heap.size) := ⟨HT.out.B.trans (bn.mono HT.out.B.size), HT.out.B.size⟩
  have hsz1 := HS1.out
  have HB2 : Hid ((∀ b, vx.ownBlock = some b → w.heap.size ≤ b) ∧ (∀ b, vy.ownBlock = some b → w.heap.size ≤ b)) := ⟨fun b hb => Nat.le_trans hsz1.1 (HX.out.nb b hb), fun b hb => Nat.le_trans hsz1.2 (HY.out.nb b hb)⟩
  clear hsz1 HS1
  obtain ⟨ax, cx, ex, _⟩ := HX.out.fds
  obtain ⟨ay, cy, ey, _⟩ := HY.out.fds
  subst ex
  subst ey
  unfold bkA at HX HY HK HB
  clear HT bn
  go_wp2_with fail
  obtain ⟨U, eU⟩ : ∃ U, v7.alloc (.cells #[.slice none 0 0, .slice none 0 0, .slice none 0 0, .slice none 0 0, .slice none 0 0, .slice none 0 0, .slice none 0 0, .slice none 0 0, .slice none 0 0, .slice none 0 0, .slice none 0 0] 60) = U := ⟨_, rfl⟩
  obtain ⟨bk, ebk⟩ : ∃ bk, v7.heap.size = bk := ⟨_, rfl⟩
  rw [eU] at HX HY HK HB ⊢
  rw [ebk] at HK HB ⊢
  clear eU ebk
  have rx := HX.out.row
  have ry := HY.out.row
  unfold RowL at rx ry
  have MU : Mv w U (fun _ => False) := Mv.ofBelow HB.out.1
  have hbk : w.heap.size ≤ bk := HB.out.2
  have nx : ∀ b, Value.ownBlock (.slice ax L.length cx) = some b → w.heap.size ≤ b := HB2.out.1
  have ny : ∀ b, Value.ownBlock (.slice ay L.length cy) = some b → w.heap.size ≤ b := HB2.out.2
  refine (bookAdd_any U bk 0 (.slice none 0 0) (fun _ => .slice none 0 0) ax L.length cx HK.out (Row.nil _ _ _ _) (by omega)).mono ?_
  rintro _ x1 ⟨⟨r1, rfl⟩, lv1, hk1, hr1, ho1, hm1⟩
  have dx1 : ∀ b, Value.ownBlock (.slice ax L.length cx) = some b → ¬ (b = bk ∨ Value.ownBlock (.slice none 0 0) = some b) := fun b hb h => h.elim (fun e => HK.out.ne rx (by decide) (by rw [hb, e])) (fun e => by simp [Value.ownBlock] at e)
  have dy1 : ∀ b, Value.ownBlock (.slice ay L.length cy) = some b → ¬ (b = bk ∨ Value.ownBlock (.slice none 0 0) = some b) := fun b hb h => h.elim (fun e => HK.out.ne ry (by decide) (by rw [hb, e])) (fun e => by simp [Value.ownBlock] at e)
  have rx1 := hm1.row rx dx1
  have ry1 := hm1.row ry dy1
  have M1 : Mv w x1 (fun _ => False) := MU.trans hm1 (fun b e => .inr (e.elim (fun e => by omega) (fun e => by simp [Value.ownBlock] at e)))
  have hl1 : ∀ b, lv1.ownBlock = some b → w.heap.size ≤ b := fun b hb => by
    rcases ho1 with h | ⟨q, h, hq⟩
    · rw [h] at hb; simp [Value.ownBlock] at hb
    · rw [h] at hb; cases hb; have := MU.size; omega
  have HK1 := hk1.hid
  have HR1 := Row.hid hr1
  have HRX := Row.hid rx1
  have HRY := Row.hid ry1
  have HM1 : Hid (Mv w x1 (fun _ => False)) := M1
  have HL1 : Hid (∀ b, lv1.ownBlock = some b → w.heap.size ≤ b) := hl1
  have HNX : Hid ((∀ b, Value.ownBlock (.slice ax L.length cx) = some b → w.heap.size ≤ b) ∧ (∀ b, Value.ownBlock (.slice ay L.length cy) = some b → w.heap.size ≤ b) ∧ w.heap.size ≤ bk) := ⟨nx, ny, hbk⟩
  clear hk1 hr1 rx1 ry1 M1 hl1 nx ny hbk dx1 dy1 ho1 hm1 rx ry MU HX HY HK HB HB2
  go_wp2_with fail
  refine (bookAdd_any x1 bk 1 lv1 _ ay L.length cy HK1.out HR1.out (by omega)).mono ?_
  rintro _ x2 ⟨⟨r2, rfl⟩, lv2, hk2, hr2, ho2, hm2⟩
  have dx2 : ∀ b, Value.ownBlock (.slice ax L.length cx) = some b → ¬ (b = bk ∨ lv1.ownBlock = some b) := fun b hb h => h.elim (fun e => HK1.out.ne HRX.out (by decide) (by rw [hb, e])) (fun e => (HRX.out.apart HR1.out (by decide)) b hb e)
  have dy2 : ∀ b, Value.ownBlock (.slice ay L.length cy) = some b → ¬ (b = bk ∨ lv1.ownBlock = some b) := fun b hb h => h.elim (fun e => HK1.out.ne HRY.out (by decide) (by rw [hb, e])) (fun e => (HRY.out.apart HR1.out (by decide)) b hb e)
  have rx2 := hm2.row HRX.out dx2
  have ry2 := hm2.row HRY.out dy2
  have M2 : Mv w x2 (fun _ => False) := HM1.out.trans hm2 (fun b e => .inr (e.elim (fun e => by have := HNX.out.2.2; omega) (fun e => HL1.out b e)))
  obtain ⟨al, cl, el, hal, _⟩ := hr2.form
  obtain ⟨g, eg⟩ := hal (by omega)
  subst eg
  subst el
  have ap : Aprt x2 g 2 (fun j => if j = 0 then .slice ax L.length cx else .slice ay L.length cy) := by
    refine ⟨fun j j' hj hj' hne b => ?_, fun j hj => ?_, fun j hj b => ?_, hr2.lt g rfl⟩
    · by_cases e : j = 0
      · have e' : ¬ j' = 0 := by omega
        simp only [e, e', if_true, if_false]
        exact fun hb => HD.out b hb
      · have e' : j' = 0 := by omega
        simp only [e, e', if_true, if_false]
        exact fun hb hb' => HD.out b hb' hb
    · by_cases e : j = 0
      · simp only [e, if_true]
        exact fun hb => (rx2.apart hr2 (by decide)) g hb rfl
      · simp only [e, if_false]
        exact fun hb => (ry2.apart hr2 (by decide)) g hb rfl
    · by_cases e : j = 0
      · simp only [e, if_true]
        exact fun hb => rx2.lt b hb
      · simp only [e, if_false]
        exact fun hb => ry2.lt b hb
  have hp : P1 x2 x2 g 2 (fun j => if j = 0 then .slice ax L.length cx else .slice ay L.length cy) (fun _ => L.length) (fun _ => lsF L) := by
    refine ⟨fun j hj => ?_, fun j hj => ?_, Mv.refl _ _⟩
    · by_cases e : j = 0
      · simp only [e, if_true]; exact rx2
      · simp only [e, if_false]; exact ry2
    · rw [hr2.cell (by omega)]
      by_cases e : j = 0
      · subst e; simp
      · obtain rfl : j = 1 := by omega
        simp
  have hbn : ¬ bks 2 (fun j => if j = 0 then Value.slice ax L.length cx else .slice ay L.length cy) bk := by
    rintro ⟨j, hj, hb⟩
    by_cases e : j = 0
    · simp only [e, if_true] at hb; exact hk2.ne rx2 (by decide) hb
    · simp only [e, if_false] at hb; exact hk2.ne ry2 (by decide) hb
  have CO : Hid (Calls Try.prog 25 #[.pointer (some ⟨bk, 0, none⟩)] x2 fun e w' => e = .returned (.bool true) ∧ Mv x2 w' (bks 2 (fun j => if j = 0 then Value.slice ax L.length cx else .slice ay L.length cy))) := bookOwn_any x2 bk g 2 cl _ _ _ (by omega) (fun j hj => by show L.length ≤ _; omega) ap hp hk2 hbn
  have HM2 : Hid (Mv w x2 (fun _ => False)) := M2
  clear ap hp hbn M2 rx2 ry2 dx2 dy2 hk2 hr2 ho2 hm2 hal HK1 HR1 HRX HRY HM1 HL1 HD
  go_wp2_with fail
  refine CO.out.mono ?_
  rintro _ x3 ⟨rfl, hm3⟩
  have M3 : Mv w x3 (fun _ => False) := HM2.out.trans hm3 (fun b e => .inr (by
    obtain ⟨j, hj, hb⟩ := e
    by_cases e : j = 0
    · simp only [e, if_true] at hb; exact HNX.out.1 b hb
    · simp only [e, if_false] at hb; exact HNX.out.2.1 b hb))
  have HM3 : Hid (Mv w x3 (fun _ => False)) := M3
  clear M3 hm3 CO HM2
  go_wp2
  go_ret
  exact ⟨rfl, HM3.out.below (Nat.le_refl _) (fun b e => e.elim)⟩

theorem sfeeds_all (s t : Tp) (c : Int) (ao : Option Addr) (len cap : Nat) (A : Nat → Ev) (w : World) (hA : Evs w ao len A) (hn : ao = none → len = 0 ∧ cap = 0) (hmax : len ≤ 9223372036854775807) :
    Calls Try.prog 4 #[.agg (tpA s), .agg (tpA t), .int .i64 c, .slice ao len cap] w fun e w' => e = .returned (.bool true) ∧ Below w.heap.size w w' := by
  by_cases h : 33554431 < len
  · exact sfeeds_long s t c ao len cap w h hmax
  · exact sfeeds_short s t c ao len cap A w hA hn (by omega)
end Go.Proofs.Ytjjmpfpbfkploaa
