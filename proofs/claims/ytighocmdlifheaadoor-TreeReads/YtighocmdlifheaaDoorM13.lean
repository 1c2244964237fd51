import Derived.Test.YtighocmdlifheaaDoorM12
import Derived.Test.YtighocmdlifheaaDoorM10
import Derived.Test.YtighocmdlifheaaDoorM11
import Derived.Laws.BitsLemmas
import Derived.Laws.BitsAllLaws
/-
  The document's Reads, of any expression.
-/
namespace Go.Proofs.YtighocmdlifheaaDoor
open Go.RowKit Go.Shelf
set_option linter.unusedVariables false

theorem or_eq (a b : Int) : bits BinOp.or IntKind.u16 a b = IntKind.u16.wrap ((BitVec.ofInt 16 a ||| BitVec.ofInt 16 b).toNat : Int) := rfl
theorem or_rng (a b : Int) : 0 ≤ bits BinOp.or IntKind.u16 a b ∧ bits BinOp.or IntKind.u16 a b ≤ 65535 := by
  rw [or_eq]
  simp only [IntKind.wrap_u16]
  omega
theorem or_zero {a : Int} (h0 : 0 ≤ a) (h1 : a ≤ 65535) : bits BinOp.or IntKind.u16 a 0 = a := by
  obtain ⟨n, rfl⟩ : ∃ n : Nat, a = n := ⟨a.toNat, by omega⟩
  rw [or_eq, BitVec.toNat_or, BitVec.ofInt_natCast, BitVec.toNat_ofNat, Nat.mod_eq_of_lt (by omega)]
  have e : (BitVec.ofInt 16 0).toNat = 0 := rfl
  rw [e, Nat.or_zero]
  simp only [IntKind.wrap_u16]
  omega
theorem mkL_rng (T : List Nd) : 0 ≤ mkL T ∧ mkL T ≤ 65535 := by
  refine list_snoc_ind (P := fun T => 0 ≤ mkL T ∧ mkL T ≤ 65535) (by decide) ?_ T
  intro T x ih
  rw [mkL_snoc]
  unfold mkF
  split
  · exact or_rng _ _
  · exact ih
theorem mkF_far {a : Int} {x : Nd} (h0 : 0 ≤ a) (h1 : a ≤ 65535) (h : ¬ x.h.f < 16) : mkF a x = a := by
  unfold mkF
  split
  · unfold bitN
    rw [show min x.h.f.toNat 16 = 16 by omega]
    exact or_zero h0 h1
  · rfl
theorem mkF_near {a : Int} {x : Nd} (hk : x.h.k = 3 ∨ x.h.k = 4) : mkF a x = bits BinOp.or IntKind.u16 a (IntKind.u16.wrap (2 ^ min x.h.f.toNat 16)) := by
  unfold mkF; rw [if_pos hk]; rfl
/-- What of the first k names is not that one. -/
def nonB (L : List ByteArray) (x : ByteArray) (k : Nat) : Bool := !hasT (L.take k) x
theorem nonB_zero (L : List ByteArray) (x : ByteArray) : nonB L x 0 = true := rfl
theorem nonB_succ {L : List ByteArray} {x : ByteArray} {k : Nat} (h : k < L.length) : nonB L x (k + 1) = (nonB L x k && !decide (L.getD k ⟨#[]⟩ = x)) := by
  have e : L.take (k + 1) = L.take k ++ [L[k]] := by rw [List.take_add_one, List.getElem?_eq_getElem h]; rfl
  unfold nonB hasT
  rw [e, List.any_append]
  simp only [List.getD, List.getElem?_eq_getElem h, Option.getD_some, List.any_cons, List.any_nil, Bool.or_false, Bool.not_or]
theorem nonB_all (L : List ByteArray) (x : ByteArray) : nonB L x L.length = !hasT L x := by unfold nonB; rw [List.take_length]
theorem nmF_eq (L : List ByteArray) (x : Nd) : nmF L x = if (decide (x.h.k = 2) && nonB L x.h.x L.length) = true then L ++ [x.h.x] else L := by
  unfold nmF
  rw [nonB_all]
  by_cases h : x.h.k = 2
  · by_cases e : hasT L x.h.x = false
    · rw [if_pos ⟨h, e⟩, if_pos (by rw [e]; simp [h])]
    · rw [if_neg (fun q => e q.2), if_neg (by simpa [h] using e)]
  · rw [if_neg (fun q => h q.1), if_neg (by simp [h])]
/-- Between two rounds: what has come so far. -/
structure Rj (w wr : World) (N : List Nd) (nv lv : Value) (i : Nat) : Prop where
  n : RN w wr nv N
  r : RowT wr lv (nmL (N.take i))
  nb : ∀ k, lv.ownBlock = some k → w.heap.size ≤ k
theorem Rj.below {w wr w' : World} {N : List Nd} {nv lv : Value} {i : Nat} (h : Rj w wr N nv lv i) (k : Below wr.heap.size wr w') : Rj w w' N nv lv i :=
  ⟨h.n.call k, h.r.of_block (fun b hb => k.block b (h.r.lt b hb)), h.nb⟩
theorem take_nd {N : List Nd} {i : Nat} (h : i < N.length) : N.take (i + 1) = N.take i ++ [ldF N i] := by
  rw [List.take_add_one, ldF_get h, List.getElem?_eq_getElem h]; rfl
theorem txt_cell {w : World} {g n : Nat} {L : List ByteArray} {cap : Nat} (h : RowT w (.slice (some ⟨g, 0, none⟩) n cap) L) (hn : n = L.length) {j : Nat} (hj : j < L.length) : w.cell? ⟨g, j, none⟩ = some (.string (L.getD j ⟨#[]⟩)) := by
  subst hn
  exact Row.cell h (by omega)
theorem inf9f : (Tryd.prog.info? 9).map (fun i => (i.zero, i.size, i.bytes)) = some (some (.string ⟨#[]⟩), 1, 16) := by kernel_rfl
theorem lt_of_heap {w : World} {b : Nat} {o : Obj} (h : w.heap[b]? = some o) : b < w.heap.size := (Array.getElem?_eq_some_iff.1 h).1
theorem row_pos {w : World} {L : List ByteArray} {al : Option Addr} {cl : Nat} (h : RowT w (.slice al L.length cl) L) : 0 < L.length → ∃ g, al = some ⟨g, 0, none⟩ := by
  intro h0
  obtain ⟨a, c, e, hp, _⟩ := Row.form h
  cases e
  exact hp h0
theorem Rj.app {w wr w2 : World} {N : List Nd} {nv lv v' : Value} {i : Nat} {L : List ByteArray} {x : ByteArray} {o : Obj} (h : Rj w wr N nv lv i) (hr : RowT wr lv L) (hown : w2.ownsRow 0 9 1 v' (L.length + 1) ((List.range (L.length * 1)).map (txF L) ++ [.string x])) (hg2 : (wr.alloc o).grownBy w2 lv.ownBlock) (hl : v'.ownBlock = lv.ownBlock ∨ v'.ownBlock = some (wr.alloc o).heap.size)
    (hn : nmL (N.take (i + 1)) = L ++ [x]) : Rj w w2 N nv v' (i + 1) := by
  have m2 : Mv wr w2 (fun k => lv.ownBlock = some k) := ((Mv.refl wr (fun k => lv.ownBlock = some k)).alloc o).grown hg2 (fun k e => .inl e)
  have hb : Below w.heap.size wr w2 := m2.below h.n.B.size (fun b e => h.nb b e)
  refine ⟨⟨m2.row h.n.row (fun k hk e => ?_), h.n.nb, h.n.B.trans hb⟩, ?_, fun k hk => ?_⟩
  · exact Row.apart h.n.row hr (by decide) k hk e
  · rw [hn]
    have hr := Row.snoc (x := fun _ => .string x) hown rfl (one_s x)
    unfold RowT
    rw [List.length_append, List.length_singleton]
    refine hr.congr (fun j hj => ?_)
    unfold txF
    by_cases e : j < L.length * 1
    · rw [if_pos e]
      simp [List.getD, List.getElem?_append_left (show j < L.length by omega)]
    · rw [if_neg e]
      obtain rfl : j = L.length := by omega
      simp [List.getD]
  · rcases hl with e | e
    · exact h.nb k (by rw [← e]; exact hk)
    · rw [hk] at e
      injection e with e
      rw [e, size_alloc]
      have := h.n.B.size
      omega
set_option maxRecDepth 100000 in
set_option maxHeartbeats 4000000 in
theorem rreads_any (m : Nd) (w : World) (hl : Lies w m) (hz : size m ≤ 900000000) :
    Calls Tryd.prog 12 #[.agg m.vals] w fun e w' => ∃ lv, e = .returned (.tuple #[.int .u16 (mkL (pre m)), lv]) ∧ RowT w' lv (nmL (pre m)) ∧ (∀ k, lv.ownBlock = some k → w.heap.size ≤ k) ∧ Below w.heap.size w w' := by
  have b0 := below_new w (.cells m.vals 28)
  have hN0 : NdH (w.alloc (.cells m.vals 28)) w.heap.size m := heap_new w _
  have cN := nodes_any m (w.alloc (.cells m.vals 28)) (hl.on b0) hz
  have hlen : (pre m).length ≤ 900000000 := by rw [size_pre]; exact hz
  obtain ⟨W, hW⟩ : ∃ W, w.alloc (.cells m.vals 28) = W := ⟨_, rfl⟩
  rw [hW] at b0 hN0 cN
  have y0 : W.cell? ⟨w.heap.size, 0, none⟩ = some (.int .u8 m.h.k) := cell_of hN0 0
  have y1 : W.cell? ⟨w.heap.size, 1, none⟩ = some (.int .u8 m.h.o) := cell_of hN0 1
  have y2 : W.cell? ⟨w.heap.size, 2, none⟩ = some (.int .u8 m.h.t) := cell_of hN0 2
  have y3 : W.cell? ⟨w.heap.size, 3, none⟩ = some (.int .i64 m.h.n) := cell_of hN0 3
  have y4 : W.cell? ⟨w.heap.size, 4, none⟩ = some (.int .u8 m.h.f) := cell_of hN0 4
  have y5 : W.cell? ⟨w.heap.size, 5, none⟩ = some (.string m.h.x) := cell_of hN0 5
  have y6 : W.cell? ⟨w.heap.size, 6, none⟩ = some (.slice m.a m.ks.length m.c) := cell_of hN0 6
  have y7 : W.cell? ⟨w.heap.size, 7, none⟩ = some (.int .i64 m.h.p) := cell_of hN0 7
  have Hb0 : Hid (Below w.heap.size w W) := b0
  have HLs : Hid (∀ k ∈ pre m, Lies w k) := lies_pre m hl
  have HW : Hid (w.alloc (.cells m.vals 28) = W) := hW
  clear hN0 b0 hl
  unfold Nd.vals hdA at cN hW ⊢
  go_enter Tryd.func12, Tryd.ntmps12
  go_wp2_with fail
  refine cN.mono ?_
  rintro e W1 ⟨nv, rfl, hRN⟩
  have HJ : Hid (Rj W W1 (pre m) nv (.slice none 0 0) 0) := ⟨hRN, Row.nil _ _ _ _, fun k hk => by cases hk⟩
  obtain ⟨na, nc, hnv, _, _⟩ := hRN.row.form
  clear hRN cN y0 y1 y2 y3 y4 y5 y6 y7 hW
  subst hnv
  generalize hNN : pre m = N at *
  have HN : Hid (pre m = N) := hNN
  clear hNN
  clear hz
  go_wp2_with fail
  go_loopw [5, 6, 7, 8, 9, 10] (fun v5 v6 v7 _ _ _ wr => ∃ i : Nat, i ≤ N.length ∧ v7 = .int .i64 i ∧ v5 = .int .u16 (mkL (N.take i)) ∧ Rj W wr N (.slice na N.length nc) v6 i) (fun _ _ v7 _ _ _ _ => N.length - (intOf v7).toNat)
  case atStart => exact ⟨0, by omega, rfl, rfl, HJ.out⟩
  case round =>
    clear HJ
    obtain ⟨i, hi, rfl, rfl, hj⟩ := hrel
    have HJ : Hid (Rj W wr N (.slice na N.length nc) u6 i) := hj
    by_cases hlt : i < N.length
    · have hb : (i : Int) < (N.length : Int) := by omega
      rcases hj.n.row.lies with ⟨_, e⟩ | ⟨g, cap, e, _, _, hat⟩
      · rw [e] at hlt; exact absurd hlt (Nat.not_lt_zero _)
      have hat := hat i hlt
      injection e with e1 e2 e3
      subst e1
      obtain ⟨X, eX⟩ : ∃ X, ldF N i = X := ⟨_, rfl⟩
      have hRgX : Rg X.h := by rw [← eX, ldF_get hlt]; exact (HLs.out _ (List.getElem_mem hlt)).rg
      rw [eX] at hat
      rw [Nat.zero_add] at hat
      obtain ⟨q0, q1, q2, q3, q4, q5, q6, q7⟩ := hat
      have HF0 : Hid (0 ≤ X.h.f) := hRgX.f0
      have HF1 : Hid (X.h.f ≤ 255) := hRgX.f1
      clear hRgX
      have HTK : Hid (N.take (i + 1) = N.take i ++ [X]) := by show _ = _; rw [take_nd hlt, eX]
      obtain ⟨al, cl, hl6, _, _⟩ := hj.r.form
      subst hl6
      obtain ⟨V, eV⟩ : ∃ V, mkL (N.take i) = V := ⟨_, rfl⟩
      have hVr : 0 ≤ V ∧ V ≤ 65535 := by rw [← eV]; exact mkL_rng _
      have HMK : Hid (mkL (N.take (i + 1)) = mkF V X) := by show _ = _; rw [HTK.out, mkL_snoc, eV]
      have hx0 := heap_new wr (.cells X.vals 28)
      have hxb := below_new wr (.cells X.vals 28)
      rw [eV]
      clear hj eX eV e2 e3
      unfold Nd.vals hdA at hx0 hxb
      go_upto_region 8 with fail
      generalize hWW : wr.alloc _ = W3 at hx0 hxb ⊢
      generalize hBt0 : wr.heap.size = Bt at hx0 hxb ⊢
      have hBt := lt_of_heap hx0
      have p0 : W3.cell? ⟨Bt, 0, none⟩ = some (.int .u8 X.h.k) := cell_of hx0 0
      have p4 : W3.cell? ⟨Bt, 4, none⟩ = some (.int .u8 X.h.f) := cell_of hx0 4
      have p5 : W3.cell? ⟨Bt, 5, none⟩ = some (.string X.h.x) := cell_of hx0 5
      have HJ3 : Hid (Rj W W3 N (.slice (some ⟨g, 0, none⟩) N.length nc) (.slice al (nmL (N.take i)).length cl) i) := HJ.out.below (by rw [hBt0]; exact hxb)
      have HNM : Hid (nmL (N.take (i + 1)) = if (decide (X.h.k = 2) && nonB (nmL (N.take i)) X.h.x (nmL (N.take i)).length) = true then nmL (N.take i) ++ [X.h.x] else nmL (N.take i)) := by show _ = _; rw [HTK.out, nmL_snoc, nmF_eq]
      have HR3 : Hid (RowT W3 (.slice al (nmL (N.take i)).length cl) (nmL (N.take i))) := HJ3.out.r
      have hLl : (nmL (N.take i)).length ≤ 900000000 := by have := nmL_len (N.take i); rw [List.length_take] at this; omega
      have HAL : Hid (0 < (nmL (N.take i)).length → ∃ g, al = some ⟨g, 0, none⟩) := row_pos HR3.out
      obtain ⟨i0, h0, hz0, hz1, hz2⟩ := info_parts inf9f
      generalize nmL (N.take i) = L at HJ3 HNM HR3 hLl HAL ⊢
      obtain ⟨kb, hkb⟩ : ∃ kb, (X.h.k == 2) = kb := ⟨_, rfl⟩
      have HKB : Hid (decide (X.h.k = 2) = kb) := by show _ = _; rw [← hkb]; rfl
      rw [HKB.out] at HNM
      have hkb' := hkb
      clear hWW hBt0 hx0 hxb q0 q1 q2 q3 q4 q5 q6 q7 HJ HTK
      by_cases k3 : X.h.k = 3
      · skip
        have e3 : (X.h.k == 3) = true := by rw [k3]; rfl
        by_cases hf : X.h.f < 16
        · have HMK2 : Hid (mkL (N.take (i + 1)) = bits BinOp.or IntKind.u16 V (IntKind.u16.wrap (2 ^ X.h.f.toNat))) := (HMK.out.trans (mkF_near (by rw [k3]; decide))).trans (by rw [show min X.h.f.toNat 16 = X.h.f.toNat by omega])
          clear HMK
          have HMK := HMK2
          clear HMK2
          rw [k3] at p0 hkb
          obtain rfl : false = kb := hkb
          have hf0 := HF0.out
          have hf1 := HF1.out
          clear e3 k3 hkb'
          go_wp2_with fail
          go_loopw [9, 10] (fun v9 v10 wi => ∃ k : Nat, k ≤ L.length ∧ v10 = .int .i64 k ∧ v9 = .bool (false && nonB L X.h.x k) ∧ Mv W3 wi (fun _ => False)) (fun _ v10 _ => L.length - (intOf v10).toNat)
          case atStart => exact ⟨0, by omega, rfl, by rw [nonB_zero, Bool.and_true], Mv.refl _ _⟩
          case round =>
            obtain ⟨k, hk, rfl, rfl, hq⟩ := hrel
            have HQ : Hid (Mv W3 wr (fun _ => False)) := hq
            have p5' : wr.cell? ⟨Bt, 5, none⟩ = some (.string X.h.x) := (World.cell?_of_block (hq.block Bt hBt (fun e => e))).trans p5
            by_cases hkl : k < L.length
            · have hkb2 : (k : Int) < (L.length : Int) := by omega
              obtain ⟨gl, rfl⟩ := HAL.out (by omega)
              have t5 : wr.cell? ⟨gl, k, none⟩ = some (.string (L.getD k ⟨#[]⟩)) := txt_cell (hq.row HR3.out (fun _ _ e => e)) rfl hkl
              have HNX : Hid ((false && nonB L X.h.x (k + 1)) = ((false && nonB L X.h.x k) && !decide (L.getD k ⟨#[]⟩ = X.h.x))) := by show _ = _; rw [nonB_succ hkl, Bool.and_assoc]
              generalize L.getD k ⟨#[]⟩ = Y at t5 HNX
              generalize (false && nonB L X.h.x k) = bb at HNX
              have hkm : (k : Int) + 1 ≤ 9223372036854775807 := by omega
              clear hq
              cases bb
              · go_wp2_with fail
                go_quiet (fail)
                go_wp2_with fail
                go_round
                case rel => exact ⟨k + 1, by omega, by go_num, by rw [HNX.out]; rfl, HQ.out.trans (mv_drewN _ _ (fun _ => False)) (fun _ e => e.elim)⟩
                case measure => simp [intOf]; omega
              · by_cases hY : Y = X.h.x
                · subst hY
                  go_wp2_with fail
                  go_quiet (fail)
                  go_wp2_with fail
                  go_round
                  case rel => exact ⟨k + 1, by omega, by go_num, by rw [HNX.out]; simp, HQ.out.trans (mv_drewN _ _ (fun _ => False)) (fun _ e => e.elim)⟩
                  case measure => simp [intOf]; omega
                · have hYn := str_ne hY
                  have HY : Hid (¬ Y = X.h.x) := hY
                  clear hY
                  go_wp2_with fail
                  go_quiet (fail)
                  go_wp2_with fail
                  go_round
                  case rel => exact ⟨k + 1, by omega, by go_num, by rw [HNX.out]; simp [HY.out], HQ.out.trans (mv_drewN _ _ (fun _ => False)) (fun _ e => e.elim)⟩
                  case measure => simp [intOf]; omega
            · obtain rfl : k = L.length := by omega
              have hnk : ¬ (L.length : Int) < (L.length : Int) := by omega
              have hq2 := HQ.out
              have HJ4 : Hid (Rj W wr N (.slice (some ⟨g, 0, none⟩) N.length nc) (.slice al L.length cl) i) := HJ3.out.below hq2.toBelow
              have HR4 : Hid (RowT wr (.slice al L.length cl) L) := hq2.row HR3.out (fun _ _ e => e)
              generalize (false && nonB L X.h.x L.length) = fb at HNM
              clear hq hq2 hk
              cases fb
              · go_wp2_with fail
                go_round
                case rel => exact ⟨i + 1, by omega, by go_num, by rw [HMK.out], ⟨HJ4.out.n, by rw [HNM.out]; exact HR4.out, HJ4.out.nb⟩⟩
                case measure => simp [intOf]; omega
              · go_wp2_with (at_builtin; refine wpList_append_own_at _ rfl (.tmp 61) (.tmp 64) 34 rfl 0 9 i0 _ 1 16 Tryd.underlying34 h0 hz0 hz1 hz2 rfl (by decide) (.slice al L.length cl) L.length _ rfl (HR4.out.alloc _) ⟨wr.heap.size, 0, none⟩ 1 1 [.string X.h.x] rfl rfl (World.news_of_block (heap_new wr _)) (by intro u hu; simp at hu; rw [hu]; rfl) (by unfold maxLen; omega) (by omega) (Nat.zero_le _) ?_; intro v' w2 r1 r2 _ r4; have hrow2 := Row.snoc (x := fun _ => .string X.h.x) r1 rfl (one_s X.h.x); obtain ⟨al2, cl2, el2, _, _⟩ := hrow2.form; subst el2; have HR1 : Hid (_) := r1; have HR2 : Hid (_) := r2; have HR5 : Hid (_) := r4; clear r1 r2 r4 hrow2)
                go_round
                case rel => exact ⟨i + 1, by omega, by go_num, by rw [HMK.out], HJ4.out.app HR4.out HR1.out HR2.out HR5.out HNM.out⟩
                case measure => simp [intOf]; omega
        · have HMK2 : Hid (mkL (N.take (i + 1)) = V) := HMK.out.trans (mkF_far hVr.1 hVr.2 hf)
          clear HMK
          have HMK := HMK2
          clear HMK2
          rw [k3] at p0 hkb
          obtain rfl : false = kb := hkb
          have hf0 := HF0.out
          have hf1 := HF1.out
          clear e3 k3 hkb'
          go_wp2_with fail
          go_loopw [9, 10] (fun v9 v10 wi => ∃ k : Nat, k ≤ L.length ∧ v10 = .int .i64 k ∧ v9 = .bool (false && nonB L X.h.x k) ∧ Mv W3 wi (fun _ => False)) (fun _ v10 _ => L.length - (intOf v10).toNat)
          case atStart => exact ⟨0, by omega, rfl, by rw [nonB_zero, Bool.and_true], Mv.refl _ _⟩
          case round =>
            obtain ⟨k, hk, rfl, rfl, hq⟩ := hrel
            have HQ : Hid (Mv W3 wr (fun _ => False)) := hq
            have p5' : wr.cell? ⟨Bt, 5, none⟩ = some (.string X.h.x) := (World.cell?_of_block (hq.block Bt hBt (fun e => e))).trans p5
            by_cases hkl : k < L.length
            · have hkb2 : (k : Int) < (L.length : Int) := by omega
              obtain ⟨gl, rfl⟩ := HAL.out (by omega)
              have t5 : wr.cell? ⟨gl, k, none⟩ = some (.string (L.getD k ⟨#[]⟩)) := txt_cell (hq.row HR3.out (fun _ _ e => e)) rfl hkl
              have HNX : Hid ((false && nonB L X.h.x (k + 1)) = ((false && nonB L X.h.x k) && !decide (L.getD k ⟨#[]⟩ = X.h.x))) := by show _ = _; rw [nonB_succ hkl, Bool.and_assoc]
              generalize L.getD k ⟨#[]⟩ = Y at t5 HNX
              generalize (false && nonB L X.h.x k) = bb at HNX
              have hkm : (k : Int) + 1 ≤ 9223372036854775807 := by omega
              clear hq
              cases bb
              · go_wp2_with fail
                go_quiet (fail)
                go_wp2_with fail
                go_round
                case rel => exact ⟨k + 1, by omega, by go_num, by rw [HNX.out]; rfl, HQ.out.trans (mv_drewN _ _ (fun _ => False)) (fun _ e => e.elim)⟩
                case measure => simp [intOf]; omega
              · by_cases hY : Y = X.h.x
                · subst hY
                  go_wp2_with fail
                  go_quiet (fail)
                  go_wp2_with fail
                  go_round
                  case rel => exact ⟨k + 1, by omega, by go_num, by rw [HNX.out]; simp, HQ.out.trans (mv_drewN _ _ (fun _ => False)) (fun _ e => e.elim)⟩
                  case measure => simp [intOf]; omega
                · have hYn := str_ne hY
                  have HY : Hid (¬ Y = X.h.x) := hY
                  clear hY
                  go_wp2_with fail
                  go_quiet (fail)
                  go_wp2_with fail
                  go_round
                  case rel => exact ⟨k + 1, by omega, by go_num, by rw [HNX.out]; simp [HY.out], HQ.out.trans (mv_drewN _ _ (fun _ => False)) (fun _ e => e.elim)⟩
                  case measure => simp [intOf]; omega
            · obtain rfl : k = L.length := by omega
              have hnk : ¬ (L.length : Int) < (L.length : Int) := by omega
              have hq2 := HQ.out
              have HJ4 : Hid (Rj W wr N (.slice (some ⟨g, 0, none⟩) N.length nc) (.slice al L.length cl) i) := HJ3.out.below hq2.toBelow
              have HR4 : Hid (RowT wr (.slice al L.length cl) L) := hq2.row HR3.out (fun _ _ e => e)
              generalize (false && nonB L X.h.x L.length) = fb at HNM
              clear hq hq2 hk
              cases fb
              · go_wp2_with fail
                go_round
                case rel => exact ⟨i + 1, by omega, by go_num, by rw [HMK.out], ⟨HJ4.out.n, by rw [HNM.out]; exact HR4.out, HJ4.out.nb⟩⟩
                case measure => simp [intOf]; omega
              · go_wp2_with (at_builtin; refine wpList_append_own_at _ rfl (.tmp 61) (.tmp 64) 34 rfl 0 9 i0 _ 1 16 Tryd.underlying34 h0 hz0 hz1 hz2 rfl (by decide) (.slice al L.length cl) L.length _ rfl (HR4.out.alloc _) ⟨wr.heap.size, 0, none⟩ 1 1 [.string X.h.x] rfl rfl (World.news_of_block (heap_new wr _)) (by intro u hu; simp at hu; rw [hu]; rfl) (by unfold maxLen; omega) (by omega) (Nat.zero_le _) ?_; intro v' w2 r1 r2 _ r4; have hrow2 := Row.snoc (x := fun _ => .string X.h.x) r1 rfl (one_s X.h.x); obtain ⟨al2, cl2, el2, _, _⟩ := hrow2.form; subst el2; have HR1 : Hid (_) := r1; have HR2 : Hid (_) := r2; have HR5 : Hid (_) := r4; clear r1 r2 r4 hrow2)
                go_round
                case rel => exact ⟨i + 1, by omega, by go_num, by rw [HMK.out], HJ4.out.app HR4.out HR1.out HR2.out HR5.out HNM.out⟩
                case measure => simp [intOf]; omega
      by_cases k4 : X.h.k = 4
      · skip
        have e4 : (X.h.k == 4) = true := by rw [k4]; rfl
        by_cases hf : X.h.f < 16
        · have HMK2 : Hid (mkL (N.take (i + 1)) = bits BinOp.or IntKind.u16 V (IntKind.u16.wrap (2 ^ X.h.f.toNat))) := (HMK.out.trans (mkF_near (by rw [k4]; decide))).trans (by rw [show min X.h.f.toNat 16 = X.h.f.toNat by omega])
          clear HMK
          have HMK := HMK2
          clear HMK2
          rw [k4] at p0 hkb
          obtain rfl : false = kb := hkb
          have hf0 := HF0.out
          have hf1 := HF1.out
          clear e4 k4 hkb'
          go_wp2_with fail
          go_loopw [9, 10] (fun v9 v10 wi => ∃ k : Nat, k ≤ L.length ∧ v10 = .int .i64 k ∧ v9 = .bool (false && nonB L X.h.x k) ∧ Mv W3 wi (fun _ => False)) (fun _ v10 _ => L.length - (intOf v10).toNat)
          case atStart => exact ⟨0, by omega, rfl, by rw [nonB_zero, Bool.and_true], Mv.refl _ _⟩
          case round =>
            obtain ⟨k, hk, rfl, rfl, hq⟩ := hrel
            have HQ : Hid (Mv W3 wr (fun _ => False)) := hq
            have p5' : wr.cell? ⟨Bt, 5, none⟩ = some (.string X.h.x) := (World.cell?_of_block (hq.block Bt hBt (fun e => e))).trans p5
            by_cases hkl : k < L.length
            · have hkb2 : (k : Int) < (L.length : Int) := by omega
              obtain ⟨gl, rfl⟩ := HAL.out (by omega)
              have t5 : wr.cell? ⟨gl, k, none⟩ = some (.string (L.getD k ⟨#[]⟩)) := txt_cell (hq.row HR3.out (fun _ _ e => e)) rfl hkl
              have HNX : Hid ((false && nonB L X.h.x (k + 1)) = ((false && nonB L X.h.x k) && !decide (L.getD k ⟨#[]⟩ = X.h.x))) := by show _ = _; rw [nonB_succ hkl, Bool.and_assoc]
              generalize L.getD k ⟨#[]⟩ = Y at t5 HNX
              generalize (false && nonB L X.h.x k) = bb at HNX
              have hkm : (k : Int) + 1 ≤ 9223372036854775807 := by omega
              clear hq
              cases bb
              · go_wp2_with fail
                go_quiet (fail)
                go_wp2_with fail
                go_round
                case rel => exact ⟨k + 1, by omega, by go_num, by rw [HNX.out]; rfl, HQ.out.trans (mv_drewN _ _ (fun _ => False)) (fun _ e => e.elim)⟩
                case measure => simp [intOf]; omega
              · by_cases hY : Y = X.h.x
                · subst hY
                  go_wp2_with fail
                  go_quiet (fail)
                  go_wp2_with fail
                  go_round
                  case rel => exact ⟨k + 1, by omega, by go_num, by rw [HNX.out]; simp, HQ.out.trans (mv_drewN _ _ (fun _ => False)) (fun _ e => e.elim)⟩
                  case measure => simp [intOf]; omega
                · have hYn := str_ne hY
                  have HY : Hid (¬ Y = X.h.x) := hY
                  clear hY
                  go_wp2_with fail
                  go_quiet (fail)
                  go_wp2_with fail
                  go_round
                  case rel => exact ⟨k + 1, by omega, by go_num, by rw [HNX.out]; simp [HY.out], HQ.out.trans (mv_drewN _ _ (fun _ => False)) (fun _ e => e.elim)⟩
                  case measure => simp [intOf]; omega
            · obtain rfl : k = L.length := by omega
              have hnk : ¬ (L.length : Int) < (L.length : Int) := by omega
              have hq2 := HQ.out
              have HJ4 : Hid (Rj W wr N (.slice (some ⟨g, 0, none⟩) N.length nc) (.slice al L.length cl) i) := HJ3.out.below hq2.toBelow
              have HR4 : Hid (RowT wr (.slice al L.length cl) L) := hq2.row HR3.out (fun _ _ e => e)
              generalize (false && nonB L X.h.x L.length) = fb at HNM
              clear hq hq2 hk
              cases fb
              · go_wp2_with fail
                go_round
                case rel => exact ⟨i + 1, by omega, by go_num, by rw [HMK.out], ⟨HJ4.out.n, by rw [HNM.out]; exact HR4.out, HJ4.out.nb⟩⟩
                case measure => simp [intOf]; omega
              · go_wp2_with (at_builtin; refine wpList_append_own_at _ rfl (.tmp 61) (.tmp 64) 34 rfl 0 9 i0 _ 1 16 Tryd.underlying34 h0 hz0 hz1 hz2 rfl (by decide) (.slice al L.length cl) L.length _ rfl (HR4.out.alloc _) ⟨wr.heap.size, 0, none⟩ 1 1 [.string X.h.x] rfl rfl (World.news_of_block (heap_new wr _)) (by intro u hu; simp at hu; rw [hu]; rfl) (by unfold maxLen; omega) (by omega) (Nat.zero_le _) ?_; intro v' w2 r1 r2 _ r4; have hrow2 := Row.snoc (x := fun _ => .string X.h.x) r1 rfl (one_s X.h.x); obtain ⟨al2, cl2, el2, _, _⟩ := hrow2.form; subst el2; have HR1 : Hid (_) := r1; have HR2 : Hid (_) := r2; have HR5 : Hid (_) := r4; clear r1 r2 r4 hrow2)
                go_round
                case rel => exact ⟨i + 1, by omega, by go_num, by rw [HMK.out], HJ4.out.app HR4.out HR1.out HR2.out HR5.out HNM.out⟩
                case measure => simp [intOf]; omega
        · have HMK2 : Hid (mkL (N.take (i + 1)) = V) := HMK.out.trans (mkF_far hVr.1 hVr.2 hf)
          clear HMK
          have HMK := HMK2
          clear HMK2
          rw [k4] at p0 hkb
          obtain rfl : false = kb := hkb
          have hf0 := HF0.out
          have hf1 := HF1.out
          clear e4 k4 hkb'
          go_wp2_with fail
          go_loopw [9, 10] (fun v9 v10 wi => ∃ k : Nat, k ≤ L.length ∧ v10 = .int .i64 k ∧ v9 = .bool (false && nonB L X.h.x k) ∧ Mv W3 wi (fun _ => False)) (fun _ v10 _ => L.length - (intOf v10).toNat)
          case atStart => exact ⟨0, by omega, rfl, by rw [nonB_zero, Bool.and_true], Mv.refl _ _⟩
          case round =>
            obtain ⟨k, hk, rfl, rfl, hq⟩ := hrel
            have HQ : Hid (Mv W3 wr (fun _ => False)) := hq
            have p5' : wr.cell? ⟨Bt, 5, none⟩ = some (.string X.h.x) := (World.cell?_of_block (hq.block Bt hBt (fun e => e))).trans p5
            by_cases hkl : k < L.length
            · have hkb2 : (k : Int) < (L.length : Int) := by omega
              obtain ⟨gl, rfl⟩ := HAL.out (by omega)
              have t5 : wr.cell? ⟨gl, k, none⟩ = some (.string (L.getD k ⟨#[]⟩)) := txt_cell (hq.row HR3.out (fun _ _ e => e)) rfl hkl
              have HNX : Hid ((false && nonB L X.h.x (k + 1)) = ((false && nonB L X.h.x k) && !decide (L.getD k ⟨#[]⟩ = X.h.x))) := by show _ = _; rw [nonB_succ hkl, Bool.and_assoc]
              generalize L.getD k ⟨#[]⟩ = Y at t5 HNX
              generalize (false && nonB L X.h.x k) = bb at HNX
              have hkm : (k : Int) + 1 ≤ 9223372036854775807 := by omega
              clear hq
              cases bb
              · go_wp2_with fail
                go_quiet (fail)
                go_wp2_with fail
                go_round
                case rel => exact ⟨k + 1, by omega, by go_num, by rw [HNX.out]; rfl, HQ.out.trans (mv_drewN _ _ (fun _ => False)) (fun _ e => e.elim)⟩
                case measure => simp [intOf]; omega
              · by_cases hY : Y = X.h.x
                · subst hY
                  go_wp2_with fail
                  go_quiet (fail)
                  go_wp2_with fail
                  go_round
                  case rel => exact ⟨k + 1, by omega, by go_num, by rw [HNX.out]; simp, HQ.out.trans (mv_drewN _ _ (fun _ => False)) (fun _ e => e.elim)⟩
                  case measure => simp [intOf]; omega
                · have hYn := str_ne hY
                  have HY : Hid (¬ Y = X.h.x) := hY
                  clear hY
                  go_wp2_with fail
                  go_quiet (fail)
                  go_wp2_with fail
                  go_round
                  case rel => exact ⟨k + 1, by omega, by go_num, by rw [HNX.out]; simp [HY.out], HQ.out.trans (mv_drewN _ _ (fun _ => False)) (fun _ e => e.elim)⟩
                  case measure => simp [intOf]; omega
            · obtain rfl : k = L.length := by omega
              have hnk : ¬ (L.length : Int) < (L.length : Int) := by omega
              have hq2 := HQ.out
              have HJ4 : Hid (Rj W wr N (.slice (some ⟨g, 0, none⟩) N.length nc) (.slice al L.length cl) i) := HJ3.out.below hq2.toBelow
              have HR4 : Hid (RowT wr (.slice al L.length cl) L) := hq2.row HR3.out (fun _ _ e => e)
              generalize (false && nonB L X.h.x L.length) = fb at HNM
              clear hq hq2 hk
              cases fb
              · go_wp2_with fail
                go_round
                case rel => exact ⟨i + 1, by omega, by go_num, by rw [HMK.out], ⟨HJ4.out.n, by rw [HNM.out]; exact HR4.out, HJ4.out.nb⟩⟩
                case measure => simp [intOf]; omega
              · go_wp2_with (at_builtin; refine wpList_append_own_at _ rfl (.tmp 61) (.tmp 64) 34 rfl 0 9 i0 _ 1 16 Tryd.underlying34 h0 hz0 hz1 hz2 rfl (by decide) (.slice al L.length cl) L.length _ rfl (HR4.out.alloc _) ⟨wr.heap.size, 0, none⟩ 1 1 [.string X.h.x] rfl rfl (World.news_of_block (heap_new wr _)) (by intro u hu; simp at hu; rw [hu]; rfl) (by unfold maxLen; omega) (by omega) (Nat.zero_le _) ?_; intro v' w2 r1 r2 _ r4; have hrow2 := Row.snoc (x := fun _ => .string X.h.x) r1 rfl (one_s X.h.x); obtain ⟨al2, cl2, el2, _, _⟩ := hrow2.form; subst el2; have HR1 : Hid (_) := r1; have HR2 : Hid (_) := r2; have HR5 : Hid (_) := r4; clear r1 r2 r4 hrow2)
                go_round
                case rel => exact ⟨i + 1, by omega, by go_num, by rw [HMK.out], HJ4.out.app HR4.out HR1.out HR2.out HR5.out HNM.out⟩
                case measure => simp [intOf]; omega
      have e3 : (X.h.k == 3) = false := beq_false_of_ne k3
      have e4 : (X.h.k == 4) = false := beq_false_of_ne k4
      have HMK2 : Hid (mkL (N.take (i + 1)) = V) := HMK.out.trans (mkF_other (fun h => h.elim k3 k4) V)
      clear HMK
      have HMK := HMK2
      clear HMK2
      go_wp2_with fail
      go_loopw [9, 10] (fun v9 v10 wi => ∃ k : Nat, k ≤ L.length ∧ v10 = .int .i64 k ∧ v9 = .bool (kb && nonB L X.h.x k) ∧ Mv W3 wi (fun _ => False)) (fun _ v10 _ => L.length - (intOf v10).toNat)
      case atStart => exact ⟨0, by omega, rfl, by rw [nonB_zero, Bool.and_true], Mv.refl _ _⟩
      case round =>
        obtain ⟨k, hk, rfl, rfl, hq⟩ := hrel
        have HQ : Hid (Mv W3 wr (fun _ => False)) := hq
        have p5' : wr.cell? ⟨Bt, 5, none⟩ = some (.string X.h.x) := (World.cell?_of_block (hq.block Bt hBt (fun e => e))).trans p5
        by_cases hkl : k < L.length
        · have hkb2 : (k : Int) < (L.length : Int) := by omega
          obtain ⟨gl, rfl⟩ := HAL.out (by omega)
          have t5 : wr.cell? ⟨gl, k, none⟩ = some (.string (L.getD k ⟨#[]⟩)) := txt_cell (hq.row HR3.out (fun _ _ e => e)) rfl hkl
          have HNX : Hid ((kb && nonB L X.h.x (k + 1)) = ((kb && nonB L X.h.x k) && !decide (L.getD k ⟨#[]⟩ = X.h.x))) := by show _ = _; rw [nonB_succ hkl, Bool.and_assoc]
          generalize L.getD k ⟨#[]⟩ = Y at t5 HNX
          generalize (kb && nonB L X.h.x k) = bb at HNX
          have hkm : (k : Int) + 1 ≤ 9223372036854775807 := by omega
          clear hq
          cases bb
          · go_wp2_with fail
            go_quiet (fail)
            go_wp2_with fail
            go_round
            case rel => exact ⟨k + 1, by omega, by go_num, by rw [HNX.out]; rfl, HQ.out.trans (mv_drewN _ _ (fun _ => False)) (fun _ e => e.elim)⟩
            case measure => simp [intOf]; omega
          · by_cases hY : Y = X.h.x
            · subst hY
              go_wp2_with fail
              go_quiet (fail)
              go_wp2_with fail
              go_round
              case rel => exact ⟨k + 1, by omega, by go_num, by rw [HNX.out]; simp, HQ.out.trans (mv_drewN _ _ (fun _ => False)) (fun _ e => e.elim)⟩
              case measure => simp [intOf]; omega
            · have hYn := str_ne hY
              have HY : Hid (¬ Y = X.h.x) := hY
              clear hY
              go_wp2_with fail
              go_quiet (fail)
              go_wp2_with fail
              go_round
              case rel => exact ⟨k + 1, by omega, by go_num, by rw [HNX.out]; simp [HY.out], HQ.out.trans (mv_drewN _ _ (fun _ => False)) (fun _ e => e.elim)⟩
              case measure => simp [intOf]; omega
        · obtain rfl : k = L.length := by omega
          have hnk : ¬ (L.length : Int) < (L.length : Int) := by omega
          have hq2 := HQ.out
          have HJ4 : Hid (Rj W wr N (.slice (some ⟨g, 0, none⟩) N.length nc) (.slice al L.length cl) i) := HJ3.out.below hq2.toBelow
          have HR4 : Hid (RowT wr (.slice al L.length cl) L) := hq2.row HR3.out (fun _ _ e => e)
          generalize (kb && nonB L X.h.x L.length) = fb at HNM
          clear hq hq2 hk
          cases fb
          · go_wp2_with fail
            go_round
            case rel => exact ⟨i + 1, by omega, by go_num, by rw [HMK.out], ⟨HJ4.out.n, by rw [HNM.out]; exact HR4.out, HJ4.out.nb⟩⟩
            case measure => simp [intOf]; omega
          · go_wp2_with (at_builtin; refine wpList_append_own_at _ rfl (.tmp 61) (.tmp 64) 34 rfl 0 9 i0 _ 1 16 Tryd.underlying34 h0 hz0 hz1 hz2 rfl (by decide) (.slice al L.length cl) L.length _ rfl (HR4.out.alloc _) ⟨wr.heap.size, 0, none⟩ 1 1 [.string X.h.x] rfl rfl (World.news_of_block (heap_new wr _)) (by intro u hu; simp at hu; rw [hu]; rfl) (by unfold maxLen; omega) (by omega) (Nat.zero_le _) ?_; intro v' w2 r1 r2 _ r4; have hrow2 := Row.snoc (x := fun _ => .string X.h.x) r1 rfl (one_s X.h.x); obtain ⟨al2, cl2, el2, _, _⟩ := hrow2.form; subst el2; have HR1 : Hid (_) := r1; have HR2 : Hid (_) := r2; have HR5 : Hid (_) := r4; clear r1 r2 r4 hrow2)
            go_round
            case rel => exact ⟨i + 1, by omega, by go_num, by rw [HMK.out], HJ4.out.app HR4.out HR1.out HR2.out HR5.out HNM.out⟩
            case measure => simp [intOf]; omega
    · obtain rfl : i = N.length := by omega
      have hnot : ¬ (N.length : Int) < (N.length : Int) := by omega
      have hr := hj.r
      rw [List.take_length] at hr
      obtain ⟨al, cl, hl6, _, _⟩ := hr.form
      have HR : Hid (RowT wr u6 (nmL N)) := hr
      subst hl6
      clear hr
      rw [List.take_length]
      clear hj
      go_wp2_with fail
      go_ret2
      exact ⟨.slice al (nmL N).length cl, by rw [HN.out]; rfl, by rw [HN.out]; exact HR.out, fun k hk => Nat.le_trans Hb0.out.size (HJ.out.nb k hk), Hb0.out.trans (HJ.out.n.B.mono Hb0.out.size)⟩
end Go.Proofs.YtighocmdlifheaaDoor

/-
  What an expression is, wherever it lies.
-/
namespace Go.Proofs.YtighocmdlifheaaDoor
open Go.RowKit
inductive Tr where
  | mk (h : Hd) (ks : List Tr)
mutual
def treeOf : Nd → Tr
  | .mk h _ _ ks => .mk h (treesOf ks)
def treesOf : List Nd → List Tr
  | [] => []
  | k :: ks => treeOf k :: treesOf ks
end
theorem trees_len : ∀ l : List Nd, (treesOf l).length = l.length
  | [] => rfl
  | k :: l => by simp only [treesOf, List.length_cons, trees_len l]
theorem trees_at : ∀ {l l' : List Nd}, treesOf l = treesOf l' → ∀ i (h1 : i < l.length) (h2 : i < l'.length), treeOf l[i] = treeOf l'[i]
  | [], _, _, i, h1, _ => absurd h1 (Nat.not_lt_zero _)
  | _ :: _, [], h, _, _, h2 => absurd h2 (Nat.not_lt_zero _)
  | k :: l, k' :: l', h, 0, _, _ => by simp only [treesOf] at h; injection h
  | k :: l, k' :: l', h, i + 1, h1, h2 => by
    simp only [treesOf] at h
    injection h with _ h
    exact trees_at h i (by simpa using h1) (by simpa using h2)
theorem tree_id : ∀ (m k : Nd), treeOf m = treeOf k → idB m k = true := by
  refine Nd.ind fun h a c ks ih k t => ?_
  cases k with
  | mk g a' c' ks' =>
    rw [treeOf, treeOf] at t
    injection t with t1 t2
    subst t1
    have hl : ks.length = ks'.length := by
      have := congrArg List.length t2
      rwa [trees_len, trees_len] at this
    simp only [idB, Nd.h, Nd.ks, alikeS, hl, decide_true, Bool.true_and]
    exact idsB_true ks ks' fun i h1 h2 => ih _ (nth_mem h1) _ (trees_at t2 i h1 h2)
end Go.Proofs.YtighocmdlifheaaDoor
