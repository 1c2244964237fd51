/-
  The walk of Fold.
-/
import Derived.Test.YtjjmpfpbfkploaaFg
import Derived.Test.YtjjmpfpbfkploaaChk
import Derived.Test.YtjjmpfpbfkploaaDif
import Derived.Test.YtjjmpfpbfkploaaDeed
import Derived.Deep.RegionHeld3
namespace Go.Proofs.Ytjjmpfpbfkploaa
open Go.RowKit

theorem enter_dv (k : Int) (args : Array Value) (v : World) : Sem.run Try.prog (callFunc (dv k) args) v = .ok (.enter (dv k) args) v := by
  unfold dv
  repeat' split
  all_goals kernel_rfl
/-- The method that a kind names. -/
theorem meth_any (s : Sn) (x : Fd) (hs : May s) (hx : Wf x) (w : World) : Calls Try.prog (dv x.k) #[.agg (snA s), .int .i64 x.a, .int .i64 x.b] w fun e w' => Stepped s x e ∧ Below w.heap.size w w' := by
  obtain ⟨k, a, b⟩ := x
  have := hx.k0
  by_cases h1 : k = 1
  · subst h1; exact bid_any s a b w
  by_cases h2 : k = 2
  · subst h2; exact ask_any s a b w
  by_cases h3 : k = 3
  · subst h3; exact trade_any s a b hs w
  by_cases h4 : k = 4
  · subst h4; exact time_any s a b w
  by_cases h5 : k = 5
  · subst h5; exact open_any s a b hs hx.a0 hx.a1 w
  have hd : dv k = 48 := by unfold dv; simp [h1, h2, h3, h4, h5]
  show Calls Try.prog (dv k) _ _ _
  rw [hd]
  exact refuse_any s ⟨k, a, b⟩ (by show k < 1 ∨ 5 < k; omega) w

set_option maxRecDepth 100000 in
set_option maxHeartbeats 4000000 in
theorem fold_no (s : Sn) (ao : Option Addr) (len cap : Nat) (hs : mayB s = false) (w : World) :
    Calls Try.prog 16 #[.agg (snA s), .slice ao len cap] w fun e w' => e = .returned (foldV s none) ∧ Below w.heap.size w w' := by
  have hS := (SnAt.new w s 23).on (below_new (w.alloc (.cells (snA s) 23)) (.cells (snA sn0) 23)) (by rw [size_alloc]; omega)
  have hR : SnH ((w.alloc (.cells (snA s) 23)).alloc (.cells (snA sn0) 23)) (w.heap.size + 1) 23 sn0 := heap_two _ _ _
  have hB := below_two w (.cells (snA s) 23) (.cells (snA sn0) 23)
  unfold snA sn0 at *
  obtain ⟨W, hW⟩ : ∃ W, (w.alloc (.cells #[.int .i64 s.bid, .int .i64 s.ask, .int .i64 s.last, .int .i64 s.vol, .int .i64 s.now, .int .i64 s.opn] 23)).alloc (.cells #[.int .i64 0, .int .i64 0, .int .i64 0, .int .i64 0, .int .i64 0, .int .i64 0] 23) = W := ⟨_, rfl⟩
  simp only at hR hB hS
  rw [hW] at hS hR hB
  have s0 := hS.c0; have s1 := hS.c1; have s2 := hS.c2; have s3 := hS.c3; have s4 := hS.c4; have s5 := hS.c5
  go_enter Try.func16, Try.ntmps16
  go_wp2_with fail
  refine (check_any s _).mono ?_
  rintro _ v ⟨rfl, bb⟩
  rw [chk_f hs]
  have hR' : SnH v (w.heap.size + 1) 23 sn0 := hR.on bb hR.lt
  have hB' : Below w.heap.size w v := hB.trans (bb.mono hB.size)
  have g := hR'.at
  have r0 := g.c0; have r1 := g.c1; have r2 := g.c2; have r3 := g.c3; have r4 := g.c4; have r5 := g.c5
  have f0 := frozen_of hR' 0; have f1 := frozen_of hR' 1; have f2 := frozen_of hR' 2; have f3 := frozen_of hR' 3; have f4 := frozen_of hR' 4; have f5 := frozen_of hR' 5
  have HR : Hid (SnH v (w.heap.size + 1) 23 sn0) := hR'
  clear hR' g hR bb s0 s1 s2 s3 s4 s5 hS hB hW
  go_wp2
  have := HR.out.put sn0
  exact bodyPost_ret (results_three (p := 4) (u := 5) (v := 6) (ty := 23) rfl _ _ (w.heap.size + 1) 23 (snA sn0) (0, 0) _ rfl this Try.underlying23 rfl (by kernel_rfl)) rfl ⟨rfl, below_put hB' (by omega) _ _ _ _ _ _⟩

set_option maxRecDepth 100000 in
set_option maxHeartbeats 2000000 in
theorem fold_ok (s : Sn) (ao : Option Addr) (len cap : Nat) (A : Nat → Fd) (hs : mayB s = true) (w : World) (hA : Fds w ao len A) (hlen : len ≤ 9223372036854775807) :
    Calls Try.prog 16 #[.agg (snA s), .slice ao len cap] w fun e w' => e = .returned (foldV s (foldK s A len)) ∧ Below w.heap.size w w' := by
  have hS : SnH ((w.alloc (.cells (snA s) 23)).alloc (.cells (snA sn0) 23)) w.heap.size 23 s := (SnH.new w s 23).on (below_new (w.alloc (.cells (snA s) 23)) (.cells (snA sn0) 23)) (by rw [size_alloc]; omega)
  have hR : SnH ((w.alloc (.cells (snA s) 23)).alloc (.cells (snA sn0) 23)) (w.heap.size + 1) 23 sn0 := heap_two _ _ _
  have hB := below_two w (.cells (snA s) 23) (.cells (snA sn0) 23)
  obtain ⟨W, hW⟩ : ∃ W, (w.alloc (.cells (snA s) 23)).alloc (.cells (snA sn0) 23) = W := ⟨_, rfl⟩
  rw [hW] at hS hR hB
  have g := hS.at
  have s0 := g.c0; have s1 := g.c1; have s2 := g.c2; have s3 := g.c3; have s4 := g.c4; have s5 := g.c5
  unfold snA sn0 at hW
  unfold snA
  simp only at hW
  have HS : Hid (SnH W w.heap.size 23 s) := hS
  have HR : Hid (SnH W (w.heap.size + 1) 23 sn0) := hR
  clear hS hR g
  go_enter Try.func16, Try.ntmps16
  go_wp2_with fail
  refine (check_any s _).mono ?_
  rintro _ v ⟨rfl, bb⟩
  rw [chk_t hs]
  have hS := HS.out.on bb HS.out.lt
  have hR := HR.out.on bb HR.out.lt
  have hB' : Below w.heap.size w v := hB.trans (bb.mono hB.size)
  have g := hS.at
  replace s0 := g.c0; replace s1 := g.c1; replace s2 := g.c2; replace s3 := g.c3; replace s4 := g.c4; replace s5 := g.c5
  have bn := below_new v (.cells (snA s) 74)
  have hF : FG w (v.alloc (.cells (snA s) 74)) (w.heap.size + 1) v.heap.size 74 s s := ⟨hS.on bn hS.lt, hR.on bn hR.lt, SnH.new v s 74, by omega, hR.lt, hB'.trans (bn.mono hB'.size)⟩
  obtain ⟨M, hM⟩ : ∃ M, v.heap.size = M := ⟨_, rfl⟩
  rw [hM] at hF
  have HF := hF.hid
  unfold snA at HF
  clear hS hR g bn hF hB bb HS HR hW
  go_wp2_with fail
  go_loopw [22] (fun i wr => ∃ (k : Nat) (cur : Sn), k ≤ len ∧ i = .int .i64 k ∧ foldK s A k = some cur ∧ FG w wr (w.heap.size + 1) M 74 s cur) (fun i _ => len - (intOf i).toNat)
  case atStart => exact ⟨0, s, by omega, rfl, rfl, HF.out⟩
  case round =>
    obtain ⟨k, cur, hk, rfl, hfo, hf⟩ := hrel
    clear HF s0 s1 s2 s3 s4 s5 hB'
    have hmay : May cur := foldK_may (mayB_iff.1 hs) k cur hfo
    have HF := hf.hid
    by_cases hlt : k < len
    · obtain ⟨b, off, rfl, hb, hc⟩ := hA (by omega)
      obtain ⟨hx, hwf⟩ := hc k hlt
      have hx' := hx.on hf.B hb
      obtain ⟨x, ex⟩ : ∃ x, A k = x := ⟨_, rfl⟩
      rw [ex] at hx' hwf
      have hst : Hid (foldK s A (k + 1) = stepO cur x) := by show _ = _; unfold foldK; rw [hfo, ← ex]; rfl
      obtain ⟨x0, x1, x2⟩ := hx'
      have hlt' : (k : Int) < (len : Int) := by omega
      have cD : ∀ v, Calls Try.prog 27 #[.int .u8 x.k] v fun e w' => e = .returned (.func (.func (dv x.k)) #[] #[]) ∧ Below v.heap.size v w' := fun v => deed_any x.k hwf.k0 hwf.k1 v
      have cM : ∀ v, Calls Try.prog (dv x.k) #[.agg (snA cur), .int .i64 x.a, .int .i64 x.b] v fun e w' => ∃ nx ok, e = .returned (.tuple #[.agg (snA nx), .bool ok]) ∧ (ok = true → stepO cur x = some nx) ∧ (ok = false → stepO cur x = none) ∧ Below v.heap.size v w' := fun v =>
        (meth_any cur x hmay hwf v).mono (by rintro e w' ⟨⟨nx, ok, h1, h2, h3⟩, h4⟩; exact ⟨nx, ok, h1, h2, h3, h4⟩)
      obtain ⟨F, hF⟩ : ∃ F, dv x.k = F := ⟨_, rfl⟩
      have hE : ∀ args v, Sem.run Try.prog (callFunc F args) v = .ok (.enter F args) v := fun args v => hF ▸ enter_dv x.k args v
      rw [hF] at cM
      simp only [hF] at cD
      have bn := below_new wr (.cells (fdA x) 66)
      have HX := (hf.step bn).hid
      have HK : Hid (KX (wr.alloc (.cells (fdA x) 66)) M wr.heap.size 0 cur x) := ⟨(hf.step bn).V.at, FdAt.new wr x 66, (hf.step bn).V.lt, by rw [size_alloc]; omega⟩
      unfold snA at cM
      unfold fdA at HX HK bn
      obtain ⟨X, hX⟩ : ∃ X, wr.alloc (.cells #[.int .u8 x.k, .int .i64 x.a, .int .i64 x.b] 66) = X := ⟨_, rfl⟩
      obtain ⟨Y, hY⟩ : ∃ Y, wr.heap.size = Y := ⟨_, rfl⟩
      rw [hX] at HX HK
      rw [hY] at HK
      clear hx hc hA hf HF hfo hmay hwf ex hF bn hs
      go_wp2_with fail
      go_region_held3 (fun v => v.cell? ⟨M, 0, none⟩ = some (.int .i64 cur.bid) ∧ v.cell? ⟨M, 1, none⟩ = some (.int .i64 cur.ask) ∧ v.cell? ⟨M, 2, none⟩ = some (.int .i64 cur.last) ∧ v.cell? ⟨M, 3, none⟩ = some (.int .i64 cur.vol) ∧ v.cell? ⟨M, 4, none⟩ = some (.int .i64 cur.now) ∧ v.cell? ⟨M, 5, none⟩ = some (.int .i64 cur.opn) ∧ v.cell? ⟨Y, 0, none⟩ = some (.int .u8 x.k) ∧ v.cell? ⟨Y, 1, none⟩ = some (.int .i64 x.a) ∧ v.cell? ⟨Y, 2, none⟩ = some (.int .i64 x.b) ∧ HB X v)
        (exact HK.out.keep (by (repeat (first | with_reducible assumption | with_reducible exact HB.refl _ | with_reducible apply HB.drew | with_reducible apply HB.alloc | with_reducible refine HB.set ?_ ?_ | with_reducible refine HB.call (by with_reducible assumption) ?_))))
        (first
          | (go_at_call 27; refine (cD _).mono ?_; rintro e w1 ⟨rfl, hb1⟩; try (have ZH := (zofA hb1).hid; have q := ZH.out.zero; obtain ⟨⟨z0, z1, z2, z3, z4, z5⟩, zf0, zf1, zf2, zf3, zf4, zf5⟩ := q))
          | (with_reducible refine (cM _).mono ?_; rintro e w2 ⟨nx, ok, rfl, ho1, ho2, hb2⟩; try ((first | (have ZH := (ZH.out.onto hb2).hid) | (have ZH := (zofB hb2).hid)); have q := ZH.out.zero; obtain ⟨⟨z0, z1, z2, z3, z4, z5⟩, zf0, zf1, zf2, zf3, zf4, zf5⟩ := q)))
      · refine abs_world (P := fun V => HB X V ∧ SnH V w2.heap.size 74 nx) ⟨by (repeat (first | with_reducible assumption | with_reducible exact HB.refl _ | with_reducible apply HB.drew | with_reducible apply HB.alloc | with_reducible refine HB.set ?_ ?_ | with_reducible refine HB.call (by with_reducible assumption) ?_)), SnH.new w2 nx 74⟩ ?_
        rintro V ⟨hv1, hv2⟩
        have hg := HX.out.step hv1
        have gz := hv2.at
        have zz0 := gz.c0; have zz1 := gz.c1; have zz2 := gz.c2; have zz3 := gz.c3; have zz4 := gz.c4; have zz5 := gz.c5
        cases ok
        · have g := hg.Z.at
          have r0 := g.c0; have r1 := g.c1; have r2 := g.c2; have r3 := g.c3; have r4 := g.c4; have r5 := g.c5
          obtain ⟨f0, f1, f2, f3, f4, f5⟩ := hg.Z.froz
          have hno : Hid (foldK s A len = none) := foldK_none (k := k + 1) (hst.out.trans (ho2 rfl)) len (by omega)
          have HG := hg.hid
          clear hg hv2 gz g ho1 ho2 hst HX HK hv1 cD cM hE
          go_wp2
          exact bodyPost_ret (results_three (p := 4) (u := 5) (v := 6) (ty := 23) rfl _ _ (w.heap.size + 1) 23 (snA sn0) (0, 0) _ rfl (HG.out.out sn0).1 Try.underlying23 rfl (by kernel_rfl)) rfl ⟨by rw [hno.out]; rfl, (HG.out.out sn0).2⟩
        · have g := hg.V.at
          have r0 := g.c0; have r1 := g.c1; have r2 := g.c2; have r3 := g.c3; have r4 := g.c4; have r5 := g.c5
          obtain ⟨f0, f1, f2, f3, f4, f5⟩ := hg.V.froz
          have hyes : Hid (foldK s A (k + 1) = some nx) := hst.out.trans (ho1 rfl)
          have HG := hg.hid
          clear hg hv2 gz g ho1 ho2 hst HX HK hv1 cD cM hE
          go_wp2
          exact ⟨⟨k + 1, nx, by omega, by go_num, hyes.out, HG.out.put nx⟩, by simp only [intOf]; omega⟩
      · refine abs_world (P := fun V => HB X V ∧ SnH V w1.heap.size 74 nx) ⟨by (repeat (first | with_reducible assumption | with_reducible exact HB.refl _ | with_reducible apply HB.drew | with_reducible apply HB.alloc | with_reducible refine HB.set ?_ ?_ | with_reducible refine HB.call (by with_reducible assumption) ?_)), ZH.out.put nx⟩ ?_
        rintro V ⟨hv1, hv2⟩
        have hg := HX.out.step hv1
        have gz := hv2.at
        have zz0 := gz.c0; have zz1 := gz.c1; have zz2 := gz.c2; have zz3 := gz.c3; have zz4 := gz.c4; have zz5 := gz.c5
        cases ok
        · have g := hg.Z.at
          have r0 := g.c0; have r1 := g.c1; have r2 := g.c2; have r3 := g.c3; have r4 := g.c4; have r5 := g.c5
          obtain ⟨f0, f1, f2, f3, f4, f5⟩ := hg.Z.froz
          have hno : Hid (foldK s A len = none) := foldK_none (k := k + 1) (hst.out.trans (ho2 rfl)) len (by omega)
          have HG := hg.hid
          clear hg hv2 gz g ho1 ho2 hst HX HK hv1 cD cM hE
          go_wp2
          exact bodyPost_ret (results_three (p := 4) (u := 5) (v := 6) (ty := 23) rfl _ _ (w.heap.size + 1) 23 (snA sn0) (0, 0) _ rfl (HG.out.out sn0).1 Try.underlying23 rfl (by kernel_rfl)) rfl ⟨by rw [hno.out]; rfl, (HG.out.out sn0).2⟩
        · have g := hg.V.at
          have r0 := g.c0; have r1 := g.c1; have r2 := g.c2; have r3 := g.c3; have r4 := g.c4; have r5 := g.c5
          obtain ⟨f0, f1, f2, f3, f4, f5⟩ := hg.V.froz
          have hyes : Hid (foldK s A (k + 1) = some nx) := hst.out.trans (ho1 rfl)
          have HG := hg.hid
          clear hg hv2 gz g ho1 ho2 hst HX HK hv1 cD cM hE
          go_wp2
          exact ⟨⟨k + 1, nx, by omega, by go_num, hyes.out, HG.out.put nx⟩, by simp only [intOf]; omega⟩
      · refine abs_world (P := fun V => HB X V ∧ SnH V X.heap.size 74 nx) ⟨by (repeat (first | with_reducible assumption | with_reducible exact HB.refl _ | with_reducible apply HB.drew | with_reducible apply HB.alloc | with_reducible refine HB.set ?_ ?_ | with_reducible refine HB.call (by with_reducible assumption) ?_)), ZH.out.put nx⟩ ?_
        rintro V ⟨hv1, hv2⟩
        have hg := HX.out.step hv1
        have gz := hv2.at
        have zz0 := gz.c0; have zz1 := gz.c1; have zz2 := gz.c2; have zz3 := gz.c3; have zz4 := gz.c4; have zz5 := gz.c5
        cases ok
        · have g := hg.Z.at
          have r0 := g.c0; have r1 := g.c1; have r2 := g.c2; have r3 := g.c3; have r4 := g.c4; have r5 := g.c5
          obtain ⟨f0, f1, f2, f3, f4, f5⟩ := hg.Z.froz
          have hno : Hid (foldK s A len = none) := foldK_none (k := k + 1) (hst.out.trans (ho2 rfl)) len (by omega)
          have HG := hg.hid
          clear hg hv2 gz g ho1 ho2 hst HX HK hv1 cD cM hE
          go_wp2
          exact bodyPost_ret (results_three (p := 4) (u := 5) (v := 6) (ty := 23) rfl _ _ (w.heap.size + 1) 23 (snA sn0) (0, 0) _ rfl (HG.out.out sn0).1 Try.underlying23 rfl (by kernel_rfl)) rfl ⟨by rw [hno.out]; rfl, (HG.out.out sn0).2⟩
        · have g := hg.V.at
          have r0 := g.c0; have r1 := g.c1; have r2 := g.c2; have r3 := g.c3; have r4 := g.c4; have r5 := g.c5
          obtain ⟨f0, f1, f2, f3, f4, f5⟩ := hg.V.froz
          have hyes : Hid (foldK s A (k + 1) = some nx) := hst.out.trans (ho1 rfl)
          have HG := hg.hid
          clear hg hv2 gz g ho1 ho2 hst HX HK hv1 cD cM hE
          go_wp2
          exact ⟨⟨k + 1, nx, by omega, by go_num, hyes.out, HG.out.put nx⟩, by simp only [intOf]; omega⟩
    · obtain rfl : k = len := by omega
      have hnot : ¬ (k : Int) < (k : Int) := by omega
      have cX : ∀ v, Calls Try.prog 13 #[.agg #[.int .i64 s.bid, .int .i64 s.ask, .int .i64 s.last, .int .i64 s.vol, .int .i64 s.now, .int .i64 s.opn], .agg #[.int .i64 cur.bid, .int .i64 cur.ask, .int .i64 cur.last, .int .i64 cur.vol, .int .i64 cur.now, .int .i64 cur.opn]] v fun e w' => e = .returned (.int .u16 (diffN s cur)) ∧ Below v.heap.size v w' := fun v => diff_any s cur v
      have hfo' : Hid (foldK s A k = some cur) := hfo
      clear hfo hmay hs hf hA
      go_wp2_with fail
      go_region_held3 (fun v => v.cell? ⟨M, 0, none⟩ = some (.int .i64 cur.bid) ∧ v.cell? ⟨M, 1, none⟩ = some (.int .i64 cur.ask) ∧ v.cell? ⟨M, 2, none⟩ = some (.int .i64 cur.last) ∧ v.cell? ⟨M, 3, none⟩ = some (.int .i64 cur.vol) ∧ v.cell? ⟨M, 4, none⟩ = some (.int .i64 cur.now) ∧ v.cell? ⟨M, 5, none⟩ = some (.int .i64 cur.opn) ∧ v.cell? ⟨w.heap.size, 0, none⟩ = some (.int .i64 s.bid) ∧ v.cell? ⟨w.heap.size, 1, none⟩ = some (.int .i64 s.ask) ∧ v.cell? ⟨w.heap.size, 2, none⟩ = some (.int .i64 s.last) ∧ v.cell? ⟨w.heap.size, 3, none⟩ = some (.int .i64 s.vol) ∧ v.cell? ⟨w.heap.size, 4, none⟩ = some (.int .i64 s.now) ∧ v.cell? ⟨w.heap.size, 5, none⟩ = some (.int .i64 s.opn))
        (first | with_reducible exact HF.out.keepD | with_reducible exact HG.out.keep | exact HG.out.keepO cur)
        (first
          | (go_at_call 13; refine (cX _).mono ?_; rintro e w2 ⟨rfl, hb2⟩; have HG := (HF.out.step (below_dw hb2)).hid; have q := HG.out.Z.zero; obtain ⟨⟨z0, z1, z2, z3, z4, z5⟩, zf0, zf1, zf2, zf3, zf4, zf5⟩ := q))
      go_wp2
      exact bodyPost_ret (results_three (p := 4) (u := 5) (v := 6) (ty := 23) rfl _ _ (w.heap.size + 1) 23 (snA cur) (0, 0) _ rfl (HG.out.out cur).1 Try.underlying23 rfl (by kernel_rfl)) rfl ⟨by rw [hfo'.out]; rfl, (HG.out.out cur).2⟩

theorem fold_any (s : Sn) (ao : Option Addr) (len cap : Nat) (A : Nat → Fd) (w : World) (hA : Fds w ao len A) (hlen : len ≤ 9223372036854775807) :
    Calls Try.prog 16 #[.agg (snA s), .slice ao len cap] w fun e w' => e = .returned (foldV s (foldO s A len)) ∧ Below w.heap.size w w' := by
  unfold foldO
  cases h : mayB s
  · exact fold_no s ao len cap h w
  · exact fold_ok s ao len cap A h w hA hlen
end Go.Proofs.Ytjjmpfpbfkploaa
