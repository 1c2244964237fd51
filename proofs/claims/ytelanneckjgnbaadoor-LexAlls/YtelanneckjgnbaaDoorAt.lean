/-
  LexAlls: the walk, from where its loops begin.
-/
import Derived.Test.YtelanneckjgnbaaDoorAc
import Derived.Test.YtelanneckjgnbaaDoorLxu
namespace Go.Proofs.YtelanneckjgnbaaDoor
open Go.RowKit Go.Shelf
set_option linter.unusedVariables false
attribute [local go_sem] Oper.semAt_some

def cSnd : Code → Code
  | .seq _ b => b
  | c => c
theorem result5 (tmps : Array Value) (W : World) (a : Addr) (h : tmps[4]?.getD undef = .pointer (some a)) (hc : W.cell? a = some (.bool true)) : (results Tryd.f5 tmps).run Tryd.prog W = .ok (.bool true) W := by
  simp [results, go_sem, h, hc]
/-- What holds between two rounds that count in one box. -/
structure IC (W0 : World) (Bk k : Nat) (W : World) : Prop where
  mv : Mv W0 W (fun b => b = Bk)
  cnt : Boxed W Bk 3 (.int .i64 (k : Nat))
theorem ic_grown {W0 W W' : World} {Bk k : Nat} {row : Option Nat} (h : IC W0 Bk k W) (hg : W.grownBy W' row) (hr : ∀ r, row = some r → W0.heap.size ≤ r ∧ ∃ o : Obj, W.heap[r]? = some o ∧ o.isCells = false) : IC W0 Bk k W' :=
  ⟨h.mv.grown hg (fun k e => .inr (hr k e).1), boxed_own Bk 3 (fun (_ : Unit) => _) () W W' row h.cnt hg (fun x e => (hr x e).2)⟩
theorem ic_own (W0 : World) (Bk : Nat) (p : List Nat → Prop) : OwnFrom W0.heap.size (fun (pre : List Nat) W => p pre ∧ IC W0 Bk pre.length W) :=
  fun pre W W' row hs hg hr => ⟨hs.1, ic_grown hs.2 hg hr⟩
theorem ix_own (W0 : World) (Bk n : Nat) (p q : List Nat → Prop) : OwnFrom W0.heap.size (fun (pre : List Nat) W => (p pre ∧ IC W0 Bk n W) ∨ q pre) :=
  fun pre W W' row hs hg hr => hs.elim (fun h => .inl ⟨h.1, ic_grown h.2 hg hr⟩) .inr
theorem keeps_one {W W' : World} {Bk : Nat} {v : Value} (m : Mv W W' (fun b => b = Bk)) (hb : Boxed W Bk 3 v) (B : Nat) : KeepsFrom B W W' :=
  keeps_mv m B (fun k e o ho => by subst e; rw [show W.heap[k]? = _ from hb] at ho; cases ho; rfl)
theorem mv_drewN (Y : World) (n : Nat) (F : Nat → Prop) : Mv Y (Y.drewN n) F := ⟨rfl, rfl, rfl, Nat.le_refl _, fun _ _ _ => rfl⟩
theorem box_drewN {Y : World} {B n : Nat} {t : TypeId} {v : Value} (h : Boxed Y B t v) : Boxed (Y.drewN n) B t v := h
theorem ic_drewN {W0 Y : World} {Bk k : Nat} (h : IC W0 Bk k Y) (n : Nat) : IC W0 Bk k (Y.drewN n) := ⟨h.mv.trans (mv_drewN Y n (fun _ => False)) (fun _ e => e.elim), h.cnt⟩
theorem keeps_box {W W' : World} {Bk : Nat} {t : TypeId} {v : Value} (m : Mv W W' (fun b => b = Bk)) (hb : Boxed W Bk t v) (B : Nat) : KeepsFrom B W W' :=
  keeps_mv m B (fun k e o ho => by subst e; rw [show W.heap[k]? = _ from hb] at ho; cases ho; rfl)
theorem ax_own {w : World} (a' : Act) (A : Nat → Act) (T : Tk) : OwnFrom w.heap.size (fun (_ : Unit) W => ∃ Bt, a' = A Bt ∧ TkH W Bt T) := by
  intro u W W' row hs hg hr
  obtain ⟨Bt, e⟩ := hs
  exact ⟨Bt, tkh_own _ _ _ _ u W W' row e hg hr⟩
theorem tk_at {w : World} {g cap : Nat} {L : List Tk} (h : RowL w (.slice (some ⟨g, 0, none⟩) L.length cap) L) {k : Nat} (hk : k < L.length) :
    w.cell? ⟨g, k * 5, none⟩ = some (.int .u8 (lsF L k).k) ∧ w.cell? ⟨g, k * 5 + 1, none⟩ = some (.string (lsF L k).x) ∧ w.cell? ⟨g, k * 5 + 2, none⟩ = some (.int .u8 (lsF L k).ty) ∧ w.cell? ⟨g, k * 5 + 3, none⟩ = some (.int .i64 (lsF L k).n) ∧ w.cell? ⟨g, k * 5 + 4, none⟩ = some (.int .i64 (lsF L k).p) := by
  obtain ⟨e0, e1, e2, e3, e4⟩ := tkF_at (lsF L) k
  exact ⟨by rw [Row.cell h (by omega), e0], by rw [Row.cell h (by omega), e1], by rw [Row.cell h (by omega), e2], by rw [Row.cell h (by omega), e3], by rw [Row.cell h (by omega), e4]⟩
set_option maxRecDepth 1000000 in
set_option maxHeartbeats 8000000 in
theorem alls_tail (C : Code) (hC : cSnd (cSnd (cSnd (cSnd (cSnd (cSnd (cSnd (cSnd (Tryd.f5.body.getD .skip)))))))) = C) (s : ByteArray) (hs : s.size ≤ 4194304) (most : Int) (L : List Tk) (hL : L = allL s)
    (w W : World) (hB : Below w.heap.size w W) (ht : Tab w) (Ba Bw Bn : Nat) (ao : Option Addr) (cap n : Nat) (hn : n ≤ L.length)
    (ba : Boxed W Ba 4 (.bool false)) (bw : Boxed W Bw 39 (.slice ao L.length cap)) (bn : Boxed W Bn 3 (.int .i64 (n : Nat))) (hr : RowL W (.slice ao L.length cap) L) (hBa : w.heap.size ≤ Ba)
    (g15 g16 g17 g18 g19 g20 g21 g22 g23 g24 g25 g26 g27 g28 g29 g30 g31 g32 g33 g34 g35 g36 g37 g38 g39 g40 g41 g42 g43 g44 g45 g46 g47 g48 g49 g50 g51 g52 g53 g54 g55 g56 g57 g58 g59 g60 : Value) :
    Code.wp Tryd.prog C (bodyPostM Fence.wide 3 Tryd.prog Tryd.f5 fun e w' => e = .returned (.bool true) ∧ Below w.heap.size w w') { tmps := #[.string s, .int .i64 most, undef, undef, .pointer (some ⟨Ba, 0, none⟩), .bool true, .pointer (some ⟨Bw, 0, none⟩), .pointer (some ⟨Bn, 0, none⟩), undef, undef, undef, undef, undef, undef, undef, g15, g16, g17, g18, g19, g20, g21, g22, g23, g24, g25, g26, g27, g28, g29, g30, g31, g32, g33, g34, g35, g36, g37, g38, g39, g40, g41, g42, g43, g44, g45, g46, g47, g48, g49, g50, g51, g52, g53, g54, g55, g56, g57, g58, g59, g60, undef, undef, undef, undef, undef, undef, undef, undef, undef, undef, undef, undef, undef, undef, undef, undef, undef, undef, undef, undef, undef, undef, undef, undef, undef, undef, undef, undef, undef, undef, undef, undef, undef, undef, undef, undef, undef, undef, undef, undef, undef, undef, undef, undef, undef, undef, undef, undef, undef, undef, undef, undef, undef, undef, undef, undef, undef, undef, undef, undef, undef, undef, undef], defers := [] } W := by
  have hll : L.length ≤ s.size := by rw [hL]; exact allL_len s
  have HL : Hid (L = allL s) := hL
  have cA := all_any s W
  have hB0 := hB
  obtain ⟨Bs, hBs⟩ : ∃ x, W.heap.size = x := ⟨_, rfl⟩
  rw [hBs] at cA
  simp only [cSnd, Tryd.f5, Option.getD_some] at hC
  rw [← hC]
  clear hC hL
  go_wp2_with fail
  refine cA.mono ?_
  rintro _ W1 ⟨rfl, hW1⟩
  have m1 : Mv W W1 (fun _ => False) := by rw [hW1]; exact (Mv.refl W _).alloc _
  have s1 : W1.heap.size = Bs + 1 := by rw [hW1]; simp [hBs]
  have x0 : Boxed W1 Bs 9 (.string s) := by rw [hW1, ← hBs]; exact Boxed.new W 9 _
  clear hW1 cA
  have y4 : Boxed (W1.alloc (.cells #[.nilFunc] 54)) (Bs + 1) 54 .nilFunc := by have := Boxed.new W1 54 .nilFunc; rwa [s1] at this
  have c4 := y4.cell
  have f4 := y4.frozen
  have hcmp : ∀ W : World, (binOp .eql 54 (.func (.func 45) #[] #[.pointer (some ⟨Bs, 0, none⟩)]) .nilFunc).run Tryd.prog W = .ok (.bool false) W := fun W => by kernel_rfl
  have x1 : Boxed (W1.alloc (.cells #[.func (.func 45) #[] #[.pointer (some ⟨Bs, 0, none⟩)]] 54)) (Bs + 1) 54 (.func (.func 45) #[] #[.pointer (some ⟨Bs, 0, none⟩)]) := by have := Boxed.new W1 54 (.func (.func 45) #[] #[.pointer (some ⟨Bs, 0, none⟩)]); rwa [s1] at this
  have c4' := x1.cell
  obtain ⟨W0, hW0⟩ : ∃ W, (W1.alloc (.cells #[.func (.func 45) #[] #[.pointer (some ⟨Bs, 0, none⟩)]] 54)).alloc (.cells #[.int .i64 0] 3) = W := ⟨_, rfl⟩
  have s0 : W0.heap.size = Bs + 3 := by rw [← hW0]; simp [s1]
  have m0 : Mv W W0 (fun _ => False) := by rw [← hW0]; exact (m1.alloc _).alloc _
  have z0 : Boxed W0 Bs 9 (.string s) := by rw [← hW0]; exact (x0.alloc _).alloc _
  have z1 : Boxed W0 (Bs + 1) 54 (.func (.func 45) #[] #[.pointer (some ⟨Bs, 0, none⟩)]) := by rw [← hW0]; exact x1.alloc _
  have z2 : Boxed W0 (Bs + 2) 3 (.int .i64 0) := by have := Boxed.new (W1.alloc (.cells #[.func (.func 45) #[] #[.pointer (some ⟨Bs, 0, none⟩)]] 54)) 3 (.int .i64 0); rw [World.size_alloc, s1, hW0] at this; exact this
  have HW0 : Hid (_ = W0) := hW0
  clear hW0 x0
  go_wp2_with fail
  rw [show Bs + 1 + 1 = Bs + 2 from rfl, HW0.out]
  clear HW0 hcmp c4 f4 c4' y4 x1 m1 s1
  have hpos := ht.pos
  have hT0 : Tab W0 := (ht.on hB).on (Mv.toBelow m0)
  have hKK : ∀ k, (k = 0 ∨ k = Bs) → k < Bs + 2 := fun k hk => by omega
  have za : Boxed W0 Ba 4 (.bool false) := (m0.block _ ba.lt (fun e => e)).trans ba
  have zw : Boxed W0 Bw 39 (.slice ao L.length cap) := (m0.block _ bw.lt (fun e => e)).trans bw
  have zn : Boxed W0 Bn 3 (.int .i64 (n : Nat)) := (m0.block _ bn.lt (fun e => e)).trans bn
  have hla : Ba < Bs := by have := ba.lt; omega
  have hlw : Bw < Bs := by have := bw.lt; omega
  have hln : Bn < Bs := by have := bn.lt; omega
  have zr : RowL W0 (.slice ao L.length cap) L := m0.row hr (fun _ _ e => e)
  have hrl : ∀ k, (Value.slice ao L.length cap).ownBlock = some k → k < Bs := fun k hk => by have := hr.lt k hk; omega
  have hrow : ∀ Y : World, (∀ b, b < Bs → Y.heap[b]? = W0.heap[b]?) → RowL Y (.slice ao L.length cap) L := fun Y hY => zr.of_block (fun b hb => hY b (hrl b hb))
  refine (wpIn_wide (n := 12)).1 ?_
  refine wpIn_rangeFunc_ownH rfl (by omega) (gf := 45) (lb := #[.pointer (some ⟨Bs, 0, none⟩)]) rfl trivial (enters_of Tryd.func45 (by kernel_rfl) rfl)
    (all_stops 11 (by omega) Bs s L HL.out W0 z0.cell hT0)
    (fun h k => h.trans k) ?hKb (Below.refl _ _) (fun _ => rfl)
    (fun pre Y => (pre = List.range pre.length ∧ pre.length ≤ n) ∧ IC W0 (Bs + 2) pre.length Y)
    (fun c pre Y => (c = .exit 0 ∧ IC W0 (Bs + 2) n Y) ∨ ¬ pre <+: List.range L.length)
    (ic_own _ _ _) (fun c => ix_own _ _ _ _ _) ⟨⟨rfl, Nat.zero_le _⟩, Mv.refl _ _, z2⟩
    (fun x a' Y => ∃ Bt, a' = { tmps := #[.string s, .int .i64 most, undef, undef, .pointer (some ⟨Ba, 0, none⟩), .bool true, .pointer (some ⟨Bw, 0, none⟩), .pointer (some ⟨Bn, 0, none⟩), .pointer (some ⟨Bs + 1, 0, none⟩), .pointer (some ⟨Bs + 2, 0, none⟩), .pointer (some ⟨Bt, 0, none⟩), undef, undef, undef, undef, g15, g16, g17, g18, g19, g20, g21, g22, g23, g24, g25, g26, g27, g28, g29, g30, g31, g32, g33, g34, g35, g36, g37, g38, g39, g40, g41, g42, g43, g44, g45, g46, g47, g48, g49, g50, g51, g52, g53, g54, g55, g56, g57, g58, g59, g60, .string s, .func (.func 45) #[] #[.pointer (some ⟨Bs, 0, none⟩)], .func (.func 45) #[] #[.pointer (some ⟨Bs, 0, none⟩)], .bool false, .func (.func 45) #[] #[.pointer (some ⟨Bs, 0, none⟩)], .agg (tkA (lsF L x)), undef, undef, undef, undef, undef, undef, undef, undef, undef, undef, undef, undef, undef, undef, undef, undef, undef, undef, undef, undef, undef, undef, undef, undef, undef, undef, undef, undef, undef, undef, undef, undef, undef, undef, undef, undef, undef, undef, undef, undef, undef, undef, undef, undef, undef, undef, undef, undef, undef, undef, undef, undef, undef, undef, undef, undef, undef], defers := [] } ∧ TkH Y Bt (lsF L x))
    (fun x a' => ax_own a' _ _) ?assign ?body ?done ?stop
  case hKb =>
    intro Y b o o' hb _ _ _
    exact ⟨by simp, fun k hk => World.putObj_heap_other (by have := hKK k hk; omega)⟩
  case assign =>
    rintro lo pre x Y K hi hK
    unfold encT
    obtain ⟨T, eT⟩ : ∃ T, lsF L x = T := ⟨_, rfl⟩
    rw [eT] at hK ⊢
    have hsz := hi.2.mv.size
    have HK : Hid (∀ a', (∃ Bt, a' = _ ∧ TkH (Y.alloc (.cells (tkA T) 49)) Bt T) → K a' (Y.alloc (.cells (tkA T) 49))) := fun a' hA => hK a' _ (keeps_kps (K := fun k => k < Y.heap.size) ⟨by simp, fun k hk => Below.heap_alloc _ _ _ hk⟩ _ (fun k hk o ho => absurd (Array.getElem?_eq_some_iff.1 ho).1 hk)) ⟨by simp, fun k hk => Below.heap_alloc _ _ _ (by have := hKK k hk; omega)⟩ ((ic_own W0 (Bs + 2) (fun pre => pre = List.range pre.length ∧ pre.length ≤ n)).alloc _ hi) hA
    clear hK hi
    unfold tkA
    gi_wp2
    exact HK.out _ ⟨Y.heap.size, rfl, heap_new _ _⟩
  case body =>
    rintro lo pre x a' Y hl ⟨rr, hrr⟩ ⟨⟨hp, hpn⟩, hic⟩ ⟨Bt, rfl, hTk⟩ hlen
    have HP : Hid (pre = List.range pre.length) := hp
    clear hp
    have low : ∀ b, b < Bs + 2 → Y.heap[b]? = W0.heap[b]? := fun b hb => hic.mv.block b (by omega) (fun e => by omega)
    have ta : Boxed Y Ba 4 (.bool false) := (low _ (by omega)).trans za
    have tw : Boxed Y Bw 39 (.slice ao L.length cap) := (low _ (by omega)).trans zw
    have tn : Boxed Y Bn 3 (.int .i64 (n : Nat)) := (low _ (by omega)).trans zn
    have ti : Boxed Y (Bs + 1) 54 (.func (.func 45) #[] #[.pointer (some ⟨Bs, 0, none⟩)]) := (low _ (by omega)).trans z1
    have tr := hrow Y (fun b hb => low b (by omega))
    obtain ⟨k, hk⟩ : ∃ k, pre.length = k := ⟨_, rfl⟩
    have HK : Hid (pre = List.range k) := by have := HP.out; rw [hk] at this; exact this
    rw [hk] at hic hlen hpn
    obtain ⟨g, hg⟩ : ∃ g, ao = some ⟨g, 0, none⟩ := by
      obtain ⟨a1, c, e, h1, _⟩ := Row.form hr
      cases e
      exact h1 (by omega)
    subst hg
    obtain ⟨T, eT⟩ : ∃ T, lsF L x = T := ⟨_, rfl⟩
    rw [eT] at hTk ⊢
    obtain ⟨y0, y1, y2, y3, y4⟩ := hTk.cells
    have ca := ta.cell
    have fa := ta.frozen
    have cw := tw.cell
    have cn := tn.cell
    have ci := ti.cell
    have cc := hic.cnt.cell
    have fc := hic.cnt.frozen
    obtain ⟨d0, d1, d2, d3, d4⟩ := tk_at tr hlen
    obtain ⟨U, eU⟩ : ∃ U, lsF L k = U := ⟨_, rfl⟩
    rw [eU] at d0 d1 d2 d3 d4
    have hlk : ¬ (L.length : Int) ≤ (k : Int) := by omega
    have hlk2 : (k : Int) < (L.length : Int) := by omega
    have hd1 : decide ((L.length : Int) ≤ (k : Int)) = false := decide_eq_false hlk
    have hd2 : decide (L.length ≤ k) = false := decide_eq_false (by omega)
    by_cases hx : x = k
    · subst hx
      rw [eT] at eU
      subst eU
      have hsY := hic.mv.size
      have HIC : Hid (IC W0 (Bs + 2) x Y) := hic
      have hend : ∀ Z, Mv Y Z (fun _ => False) → KeepsFrom W0.heap.size Y (Z.setCell ⟨Bs + 2, 0, none⟩ (.int .i64 ((x : Int) + 1))) ∧ Kps (fun k => k = 0 ∨ k = Bs) Y (Z.setCell ⟨Bs + 2, 0, none⟩ (.int .i64 ((x : Int) + 1))) ∧ IC W0 (Bs + 2) (x + 1) (Z.setCell ⟨Bs + 2, 0, none⟩ (.int .i64 ((x : Int) + 1))) := by
        intro Z mZ
        have mY : Mv Y (Z.setCell ⟨Bs + 2, 0, none⟩ (.int .i64 ((x : Int) + 1))) (fun b => b = Bs + 2) := (mZ.mono (F' := fun b => b = Bs + 2) (fun _ e => e.elim)).setCell (a := ⟨Bs + 2, 0, none⟩) (Or.inl (rfl : Bs + 2 = Bs + 2)) _
        refine ⟨keeps_one mY hic.cnt _, ⟨mY.size, fun b hb => mY.block b (by have := hKK b hb; omega) (fun e => by have := hKK b hb; omega)⟩, hic.mv.trans mY (fun b e => .inl e), ?_⟩
        have e2 : ((x + 1 : Nat) : Int) = (x : Int) + 1 := by omega
        rw [e2]
        exact Boxed.set _ (show Boxed Z (Bs + 2) 3 _ from (mZ.block _ hic.cnt.lt (fun e => e)).trans hic.cnt)
      have HEND : Hid (_) := hend
      clear hend
      by_cases hxn : x = n
      · have hxn' : ((x : Int) == (n : Int)) = true := by rw [hxn]; exact beq_self_eq_true _
        have HXN : Hid (x = n) := hxn
        clear hxn hic low tr ta tw tn ti hTk
        gi_wp2
        refine wpIn_region_round (by kernel_rfl) (by kernel_rfl) (by kernel_rfl) ?_
        repeat (go_big_quiet_step (fail))
        refine wpQuiet_nil ?_
        intro _ hw'
        obtain ⟨nq, hw''⟩ := hw'
        subst hw''
        gi_wp2
        exact ⟨keeps_mv (mv_drewN Y nq (fun _ => False)) _ (fun _ e => e.elim), .inl ⟨rfl, by rw [← HXN.out]; exact ic_drewN HIC.out nq⟩⟩
      · have hxn' : ((x : Int) == (n : Int)) = false := beq_false_of_ne (by omega)
        have hxle : x + 1 ≤ n := by omega
        have LOW : Hid (∀ b, b < Bs + 2 → Y.heap[b]? = W0.heap[b]?) := low
        have HRR : Hid (Y.heap[lo]? = some (.loop rr)) := hrr
        clear hic low tr ta tw tn ti hTk hrr
        gi_wp2
        refine wpIn_region_round (by kernel_rfl) (by kernel_rfl) (by kernel_rfl) ?_
        repeat (go_big_quiet_step (fail))
        refine wpQuiet_nil ?_
        intro _ hw'
        obtain ⟨nq, hw''⟩ := hw'
        subst hw''
        obtain ⟨Bm, hBm⟩ : ∃ b, Y.heap.size = b := ⟨_, rfl⟩
        obtain ⟨W2, hW2⟩ : ∃ V, (Y.drewN nq).alloc (.cells #[.int .i64 0] 3) = V := ⟨_, rfl⟩
        have m2 : Mv Y W2 (fun _ => False) := by rw [← hW2]; exact (mv_drewN Y nq _).alloc _
        have s2 : W2.heap.size = Bm + 1 := by rw [← hW2]; simp [hBm]
        have am : Boxed W2 Bm 3 (.int .i64 0) := by rw [← hW2, ← hBm]; exact Boxed.new (Y.drewN nq) 3 _
        have lowA : ∀ b, b < Bs + 2 → W2.heap[b]? = W0.heap[b]? := fun b hb => (m2.block b (by omega) (fun e => e)).trans (LOW.out b hb)
        have a0 : Boxed W2 Bs 9 (.string s) := (lowA _ (by omega)).trans z0
        have hT2 : Tab W2 := hT0.of0 (lowA 0 (by omega))
        have hrr2 : W2.heap[lo]? = some (.loop rr) := (m2.block lo (Array.getElem?_eq_some_iff.1 HRR.out).1 (fun e => e)).trans HRR.out
        have ac : Boxed W2 (Bs + 2) 3 (.int .i64 (x : Nat)) := (m2.block _ (by omega) (fun e => e)).trans HIC.out.cnt
        have a1 : Boxed W2 (Bs + 1) 54 (.func (.func 45) #[] #[.pointer (some ⟨Bs, 0, none⟩)]) := (lowA _ (by omega)).trans z1
        have bAc : ((Y.drewN nq).alloc (.cells #[.int .i64 0] 3)).cell? ⟨Bs + 1, 0, none⟩ = some (.func (.func 45) #[] #[.pointer (some ⟨Bs, 0, none⟩)]) := by rw [hW2]; exact a1.cell
        have HW2 : Hid (_ = W2) := hW2
        clear hW2
        gi_wp2
        rw [HW2.out]
        clear bAc
        by_cases h3 : x ≤ 3
        · have h3a : ¬ (3 : Int) < (x : Int) := by omega
          have h3b : decide ((3 : Int) < (x : Int)) = false := decide_eq_false h3a
          have h3c : decide ((x : Int) ≤ 3) = true := decide_eq_true (by omega)
          have h3d : (x : Int) ≤ 3 := by omega
          clear h3
          refine wpIn_rangeFunc_ownN (l₀ := lo) (r₀ := rr) rfl hrr2 (by omega) (gf := 45) (lb := #[.pointer (some ⟨Bs, 0, none⟩)]) rfl trivial (enters_of Tryd.func45 (by kernel_rfl) rfl)
            ((all_stops 9 (by omega) Bs s L HL.out W2 a0.cell hT2).inRound lo)
            (fun h k => h.trans k) ?hKb2 (Below.refl _ _) (fun _ => rfl)
            (fun pre2 Z => pre2 = List.range pre2.length ∧ IC W2 Bm pre2.length Z)
            (fun _ pre2 _ => ¬ pre2 <+: List.range L.length)
            (ic_own W2 Bm (fun pre2 => pre2 = List.range pre2.length)) (fun c => ownFrom_pure _ _) ⟨rfl, Mv.refl _ _, am⟩
            (fun y a' Z => ∃ (Bu : Nat) (v67 v68 v69 v70 v71 v72 v73 v74 v75 v76 v77 v78 v79 v80 v81 v82 : Value), a' = { tmps := #[.string s, .int .i64 most, undef, undef, .pointer (some ⟨Ba, 0, none⟩), .bool true, .pointer (some ⟨Bw, 0, none⟩), .pointer (some ⟨Bn, 0, none⟩), .pointer (some ⟨Bs + 1, 0, none⟩), .pointer (some ⟨Bs + 2, 0, none⟩), .pointer (some ⟨Bt, 0, none⟩), .pointer (some ⟨Bm, 0, none⟩), .pointer (some ⟨Bu, 0, none⟩), undef, undef, g15, g16, g17, g18, g19, g20, g21, g22, g23, g24, g25, g26, g27, g28, g29, g30, g31, g32, g33, g34, g35, g36, g37, g38, g39, g40, g41, g42, g43, g44, g45, g46, g47, g48, g49, g50, g51, g52, g53, g54, g55, g56, g57, g58, g59, g60, .string s, .func (.func 45) #[] #[.pointer (some ⟨Bs, 0, none⟩)], .func (.func 45) #[] #[.pointer (some ⟨Bs, 0, none⟩)], .bool false, .func (.func 45) #[] #[.pointer (some ⟨Bs, 0, none⟩)], .agg (tkA T), v67, v68, v69, v70, v71, v72, v73, v74, v75, v76, v77, v78, v79, v80, v81, v82, .agg (tkA (lsF L y)), undef, undef, undef, undef, undef, undef, undef, undef, undef, undef, undef, undef, undef, undef, undef, undef, undef, undef, undef, undef, undef, undef, undef, undef, undef, undef, undef, undef, undef, undef, undef, undef, undef, undef, undef, undef, undef, undef, undef, undef], defers := [] } ∧ TkH Z Bu (lsF L y)) ?hAx2 ?assign2 ?body2 ?done2 ?stop2
          case hKb2 =>
            intro Z b o o' hb _ _ _
            exact ⟨by simp, fun k hk => World.putObj_heap_other (by have := hKK k hk; omega)⟩
          case hAx2 =>
            intro y a' u Z Z' row hs hg hr
            obtain ⟨Bu, v67, v68, v69, v70, v71, v72, v73, v74, v75, v76, v77, v78, v79, v80, v81, v82, e⟩ := hs
            exact ⟨Bu, v67, v68, v69, v70, v71, v72, v73, v74, v75, v76, v77, v78, v79, v80, v81, v82, tkh_own _ _ _ _ u Z Z' row e hg hr⟩
          case assign2 =>
            rintro lo2 pre2 y Z K hi hK
            unfold encT
            obtain ⟨U, eU⟩ : ∃ U, lsF L y = U := ⟨_, rfl⟩
            rw [eU] at hK ⊢
            have hsz : W2.heap.size ≤ Z.heap.size := hi.2.mv.size
            have HK2 : Hid (∀ a', (∃ (Bu : Nat) (v67 v68 v69 v70 v71 v72 v73 v74 v75 v76 v77 v78 v79 v80 v81 v82 : Value), a' = _ ∧ TkH (Z.alloc (.cells (tkA U) 49)) Bu U) → K a' (Z.alloc (.cells (tkA U) 49))) := fun a' hA => hK a' _ (keeps_kps (K := fun k => k < Z.heap.size) ⟨by simp, fun k hk => Below.heap_alloc _ _ _ hk⟩ _ (fun k hk o ho => absurd (Array.getElem?_eq_some_iff.1 ho).1 hk)) ⟨by simp, fun k hk => Below.heap_alloc _ _ _ (by have := hKK k hk; omega)⟩ ((ic_own W2 Bm (fun pre2 => pre2 = List.range pre2.length)).alloc _ hi) hA
            clear hK hi
            unfold tkA
            gi_wp2
            exact HK2.out _ ⟨Z.heap.size, _, _, _, _, _, _, _, _, _, _, _, _, _, _, _, _, rfl, heap_new _ _⟩
          case body2 =>
            rintro lo2 pre2 y a' Z hl2 _ ⟨hp2, hic2⟩ ⟨Bu, v67, v68, v69, v70, v71, v72, v73, v74, v75, v76, v77, v78, v79, v80, v81, v82, rfl, hTu⟩ hlen2
            have HP2 : Hid (pre2 = List.range pre2.length) := hp2
            clear hp2
            have hsz2 := hic2.mv.size
            have lowZ : ∀ b, b < Bs + 2 → Z.heap[b]? = W0.heap[b]? := fun b hb => (hic2.mv.block b (by omega) (fun e => by omega)).trans (lowA b hb)
            have ta : Boxed Z Ba 4 (.bool false) := (lowZ _ (by omega)).trans za
            have tw : Boxed Z Bw 39 (.slice (some ⟨g, 0, none⟩) L.length cap) := (lowZ _ (by omega)).trans zw
            have tc : Boxed Z (Bs + 2) 3 (.int .i64 (x : Nat)) := (hic2.mv.block _ (by omega) (fun e => by omega)).trans ac
            have tr := hrow Z (fun b hb => lowZ b (by omega))
            obtain ⟨j, hj⟩ : ∃ j, pre2.length = j := ⟨_, rfl⟩
            have HJ : Hid (pre2 = List.range j) := by have := HP2.out; rw [hj] at this; exact this
            rw [hj] at hic2 hlen2
            obtain ⟨U, eU⟩ : ∃ U, lsF L y = U := ⟨_, rfl⟩
            rw [eU] at hTu ⊢
            obtain ⟨u0, u1, u2, u3, u4⟩ := hTu.cells
            have ca2 := ta.cell
            have fa2 := ta.frozen
            have cw2 := tw.cell
            have cc2 := tc.cell
            have cm := hic2.cnt.cell
            have fm := hic2.cnt.frozen
            obtain ⟨r0, r1, r2, r3, r4⟩ := tk_at tr hlen2
            obtain ⟨V, eV⟩ : ∃ V, lsF L j = V := ⟨_, rfl⟩
            rw [eV] at r0 r1 r2 r3 r4
            have hj0 : (j : Int) < (L.length : Int) := by omega
            have hj1 : decide ((L.length : Int) ≤ (j : Int)) = false := decide_eq_false (by omega)
            have hj2 : decide (L.length ≤ j) = false := decide_eq_false (by omega)
            have hj3 : ¬ (L.length : Int) ≤ (j : Int) := by omega
            by_cases hy : y = j
            · subst hy
              rw [eU] at eV
              subst eV
              have hend2 : ∀ nq, KeepsFrom W2.heap.size Z ((Z.drewN nq).setCell ⟨Bm, 0, none⟩ (.int .i64 ((y : Int) + 1))) ∧ Kps (fun k => k = 0 ∨ k = Bs) Z ((Z.drewN nq).setCell ⟨Bm, 0, none⟩ (.int .i64 ((y : Int) + 1))) ∧ IC W2 Bm (y + 1) ((Z.drewN nq).setCell ⟨Bm, 0, none⟩ (.int .i64 ((y : Int) + 1))) := by
                intro nq
                have mm : Mv Z ((Z.drewN nq).setCell ⟨Bm, 0, none⟩ (.int .i64 ((y : Int) + 1))) (fun b => b = Bm) := (mv_drewN Z nq (fun b => b = Bm)).setCell (a := ⟨Bm, 0, none⟩) (Or.inl (rfl : Bm = Bm)) _
                refine ⟨keeps_one mm hic2.cnt _, ⟨mm.size, fun b hb => mm.block b (by have := hKK b hb; omega) (fun e => by have := hKK b hb; omega)⟩, hic2.mv.trans mm (fun b e => .inl e), ?_⟩
                have e2 : ((y + 1 : Nat) : Int) = (y : Int) + 1 := by omega
                rw [e2]; exact Boxed.set _ (box_drewN (n := nq) hic2.cnt)
              have HE2 : Hid (_) := hend2
              clear hend2 hic2 lowZ tr ta tw tc hTu
              gi_wp2
              refine wpIn_region_round (by kernel_rfl) (by kernel_rfl) (by kernel_rfl) ?_
              repeat (go_big_quiet_step (fail))
              refine wpQuiet_nil ?_
              intro _ hw'
              obtain ⟨nq2, hw''⟩ := hw'
              subst hw''
              gi_wp2
              obtain ⟨e1, e2, e3⟩ := HE2.out nq2
              exact ⟨by first | exact e1 | (rw [← s2]; exact e1), e2, (range_next HJ.out).1, by rw [(range_next HJ.out).2]; exact e3⟩
            · have hne := tok_ne HL.out hlen2 hy
              rw [eU, eV] at hne
              have hend2 : ∀ nq, KeepsFrom W2.heap.size Z ((Z.drewN nq).setCell ⟨Ba, 0, none⟩ (.bool false)) ∧ ¬ (pre2 ++ [y]) <+: List.range L.length := fun nq => ⟨keeps_box (((mv_drewN Z nq (fun b => b = Ba))).setCell (a := ⟨Ba, 0, none⟩) (Or.inl (rfl : Ba = Ba)) _) ta _, not_prefix (by rw [hj]; exact hy)⟩
              have HE2 : Hid (_) := hend2
              clear hend2 hic2 lowZ tr ta tw tc hTu
              rcases hne with hne | hne
              · have hnk : U.k ≠ V.k := fun e => by rw [e] at hne; simp at hne
                clear hne
                gi_wp2
                refine wpIn_region_round (by kernel_rfl) (by kernel_rfl) (by kernel_rfl) ?_
                repeat (go_big_quiet_step (fail))
                refine wpQuiet_nil ?_
                intro _ hw'
                obtain ⟨nq2, hw''⟩ := hw'
                subst hw''
                gi_wp2
                exact ⟨by first | exact (HE2.out nq2).1 | (rw [← s2]; exact (HE2.out nq2).1), (HE2.out nq2).2⟩
              · have hnk : U.p ≠ V.p := fun e => by rw [e] at hne; simp at hne
                clear hne
                gi_wp2
                refine wpIn_region_round (by kernel_rfl) (by kernel_rfl) (by kernel_rfl) ?_
                repeat (go_big_quiet_step (fail))
                refine wpQuiet_nil ?_
                intro _ hw'
                obtain ⟨nq2, hw''⟩ := hw'
                subst hw''
                gi_wp2
                exact ⟨by first | exact (HE2.out nq2).1 | (rw [← s2]; exact (HE2.out nq2).1), (HE2.out nq2).2⟩
          case done2 =>
            rintro ys Z rfl ⟨_, hic2⟩
            rw [List.length_range] at hic2
            have hsz2 := hic2.mv.size
            have lowZ : ∀ b, b < Bs + 2 → Z.heap[b]? = W0.heap[b]? := fun b hb => (hic2.mv.block b (by omega) (fun e => by omega)).trans (lowA b hb)
            have tw : Boxed Z Bw 39 (.slice (some ⟨g, 0, none⟩) L.length cap) := (lowZ _ (by omega)).trans zw
            have tc : Boxed Z (Bs + 2) 3 (.int .i64 (x : Nat)) := (hic2.mv.block _ (by omega) (fun e => by omega)).trans ac
            have cw2 := tw.cell
            have cc2 := tc.cell
            have fc2 := tc.frozen
            have cm := hic2.cnt.cell
            have mZ : Mv Y Z (fun _ => False) := m2.trans hic2.mv (fun b e => .inr (by omega))
            have HZ : Hid (_) := HEND.out Z mZ
            clear hic2 lowZ tw tc mZ
            gi_wp2
            obtain ⟨e1, e2, e3⟩ := HZ.out
            exact ⟨by first | exact e1 | (rw [← s0]; exact e1), e2, ⟨(range_next HK.out).1, by rw [(range_next HK.out).2]; exact hxle⟩, by rw [(range_next HK.out).2]; exact e3⟩
          case stop2 =>
            intro c pre2 Z h1 h2
            exact absurd h1 h2
        · have h3a : (3 : Int) < (x : Int) := by omega
          have h3b : decide ((3 : Int) < (x : Int)) = true := decide_eq_true h3a
          have h3c : decide ((x : Int) ≤ 3) = false := decide_eq_false (by omega)
          have h3d : ¬ (x : Int) ≤ 3 := by omega
          clear h3
          refine wpIn_rangeFunc_ownN (l₀ := lo) (r₀ := rr) rfl hrr2 (by omega) (gf := 45) (lb := #[.pointer (some ⟨Bs, 0, none⟩)]) rfl trivial (enters_of Tryd.func45 (by kernel_rfl) rfl)
            ((all_stops 9 (by omega) Bs s L HL.out W2 a0.cell hT2).inRound lo)
            (fun h k => h.trans k) ?hKb4 (Below.refl _ _) (fun _ => rfl)
            (fun pre2 Z => pre2 = [] ∧ IC W2 Bm pre2.length Z)
            (fun c pre2 Z => (c = .exit 2 ∧ IC W2 Bm 0 Z) ∨ False)
            (ic_own W2 Bm (fun pre2 => pre2 = [])) (fun c => ix_own W2 Bm 0 (fun _ => c = .exit 2) (fun _ => False)) ⟨rfl, Mv.refl _ _, am⟩
            (fun y a' Z => ∃ (Bu : Nat) (v67 v68 v69 v70 v71 v72 v73 v74 v75 v76 v77 v78 v79 v80 v81 v82 : Value), a' = { tmps := #[.string s, .int .i64 most, undef, undef, .pointer (some ⟨Ba, 0, none⟩), .bool true, .pointer (some ⟨Bw, 0, none⟩), .pointer (some ⟨Bn, 0, none⟩), .pointer (some ⟨Bs + 1, 0, none⟩), .pointer (some ⟨Bs + 2, 0, none⟩), .pointer (some ⟨Bt, 0, none⟩), .pointer (some ⟨Bm, 0, none⟩), .pointer (some ⟨Bu, 0, none⟩), undef, undef, g15, g16, g17, g18, g19, g20, g21, g22, g23, g24, g25, g26, g27, g28, g29, g30, g31, g32, g33, g34, g35, g36, g37, g38, g39, g40, g41, g42, g43, g44, g45, g46, g47, g48, g49, g50, g51, g52, g53, g54, g55, g56, g57, g58, g59, g60, .string s, .func (.func 45) #[] #[.pointer (some ⟨Bs, 0, none⟩)], .func (.func 45) #[] #[.pointer (some ⟨Bs, 0, none⟩)], .bool false, .func (.func 45) #[] #[.pointer (some ⟨Bs, 0, none⟩)], .agg (tkA T), v67, v68, v69, v70, v71, v72, v73, v74, v75, v76, v77, v78, v79, v80, v81, v82, .agg (tkA (lsF L y)), undef, undef, undef, undef, undef, undef, undef, undef, undef, undef, undef, undef, undef, undef, undef, undef, undef, undef, undef, undef, undef, undef, undef, undef, undef, undef, undef, undef, undef, undef, undef, undef, undef, undef, undef, undef, undef, undef, undef, undef], defers := [] } ∧ TkH Z Bu (lsF L y)) ?hAx4 ?assign4 ?body4 ?done4 ?stop4
          case hKb4 =>
            intro Z b o o' hb _ _ _
            exact ⟨by simp, fun k hk => World.putObj_heap_other (by have := hKK k hk; omega)⟩
          case hAx4 =>
            intro y a' u Z Z' row hs hg hr
            obtain ⟨Bu, v67, v68, v69, v70, v71, v72, v73, v74, v75, v76, v77, v78, v79, v80, v81, v82, e⟩ := hs
            exact ⟨Bu, v67, v68, v69, v70, v71, v72, v73, v74, v75, v76, v77, v78, v79, v80, v81, v82, tkh_own _ _ _ _ u Z Z' row e hg hr⟩
          case assign4 =>
            rintro lo2 pre2 y Z K hi hK
            unfold encT
            obtain ⟨U, eU⟩ : ∃ U, lsF L y = U := ⟨_, rfl⟩
            rw [eU] at hK ⊢
            have hsz : W2.heap.size ≤ Z.heap.size := hi.2.mv.size
            have HK2 : Hid (∀ a', (∃ (Bu : Nat) (v67 v68 v69 v70 v71 v72 v73 v74 v75 v76 v77 v78 v79 v80 v81 v82 : Value), a' = _ ∧ TkH (Z.alloc (.cells (tkA U) 49)) Bu U) → K a' (Z.alloc (.cells (tkA U) 49))) := fun a' hA => hK a' _ (keeps_kps (K := fun k => k < Z.heap.size) ⟨by simp, fun k hk => Below.heap_alloc _ _ _ hk⟩ _ (fun k hk o ho => absurd (Array.getElem?_eq_some_iff.1 ho).1 hk)) ⟨by simp, fun k hk => Below.heap_alloc _ _ _ (by have := hKK k hk; omega)⟩ ((ic_own W2 Bm (fun pre2 => pre2 = [])).alloc _ hi) hA
            clear hK hi
            unfold tkA
            gi_wp2
            exact HK2.out _ ⟨Z.heap.size, _, _, _, _, _, _, _, _, _, _, _, _, _, _, _, _, rfl, heap_new _ _⟩
          case body4 =>
            rintro lo2 pre2 y a' Z hl2 _ ⟨rfl, hic2⟩ ⟨Bu, v67, v68, v69, v70, v71, v72, v73, v74, v75, v76, v77, v78, v79, v80, v81, v82, rfl, hTu⟩ hlen2
            have hsz2 := hic2.mv.size
            have tc : Boxed Z (Bs + 2) 3 (.int .i64 (x : Nat)) := (hic2.mv.block _ (by omega) (fun e => by omega)).trans ac
            have cc2 := tc.cell
            have HE2 : Hid (IC W2 Bm 0 Z) := hic2
            clear hic2 tc hTu
            gi_wp2
            exact ⟨KeepsFrom.refl _ _, rfl, HE2.out⟩
          case done4 =>
            rintro ys Z rfl ⟨hnil, _⟩
            have := congrArg List.length hnil
            rw [List.length_range, List.length_nil] at this
            omega
          case stop4 =>
            rintro c pre2 Z _ (⟨rfl, hic2⟩ | h)
            · have hsz2 := hic2.mv.size
              have tc : Boxed Z (Bs + 2) 3 (.int .i64 (x : Nat)) := (hic2.mv.block _ (by omega) (fun e => by omega)).trans ac
              have cc2 := tc.cell
              have fc2 := tc.frozen
              have mZ : Mv Y Z (fun _ => False) := m2.trans hic2.mv (fun b e => .inr (by omega))
              have HZ : Hid (_) := HEND.out Z mZ
              clear hic2 tc mZ
              gi_wp2
              obtain ⟨e1, e2, e3⟩ := HZ.out
              exact ⟨by first | exact e1 | (rw [← s0]; exact e1), e2, ⟨(range_next HK.out).1, by rw [(range_next HK.out).2]; exact hxle⟩, by rw [(range_next HK.out).2]; exact e3⟩
            · exact h.elim
    · have hne := tok_ne HL.out hlen hx
      rw [eT, eU] at hne
      have hend : ∀ nq, KeepsFrom W0.heap.size Y ((Y.drewN nq).setCell ⟨Ba, 0, none⟩ (.bool false)) ∧ ¬ (pre ++ [x]) <+: List.range L.length := fun nq => ⟨keeps_box (((mv_drewN Y nq (fun b => b = Ba))).setCell (a := ⟨Ba, 0, none⟩) (Or.inl (rfl : Ba = Ba)) _) ta _, not_prefix (by rw [hk]; exact hx)⟩
      have HEND : Hid (_) := hend
      clear hend hic low tr ta tw tn ti hTk
      rcases hne with hne | hne
      · have hnk : T.k ≠ U.k := fun e => by rw [e] at hne; simp at hne
        clear hne
        gi_wp2
        refine wpIn_region_round (by kernel_rfl) (by kernel_rfl) (by kernel_rfl) ?_
        repeat (go_big_quiet_step (fail))
        refine wpQuiet_nil ?_
        intro _ hw'
        obtain ⟨nq, hw''⟩ := hw'
        subst hw''
        gi_wp2
        exact ⟨(HEND.out nq).1, .inr (HEND.out nq).2⟩
      · have hnk : T.p ≠ U.p := fun e => by rw [e] at hne; simp at hne
        clear hne
        gi_wp2
        refine wpIn_region_round (by kernel_rfl) (by kernel_rfl) (by kernel_rfl) ?_
        repeat (go_big_quiet_step (fail))
        refine wpQuiet_nil ?_
        intro _ hw'
        obtain ⟨nq, hw''⟩ := hw'
        subst hw''
        gi_wp2
        exact ⟨(HEND.out nq).1, .inr (HEND.out nq).2⟩
  case done =>
    rintro D xs Z hD rfl ⟨⟨_, hle⟩, hic⟩ hK
    rw [List.length_range] at hic hle
    have hnL : L.length = n := by omega
    rw [hnL] at hic
    clear hnL hle
    have hsZ := hic.mv.size
    have low : ∀ b, b < Bs + 2 → Z.heap[b]? = W0.heap[b]? := fun b hb => hic.mv.block b (by omega) (fun e => by omega)
    have tn : Boxed Z Bn 3 (.int .i64 (n : Nat)) := (low _ (by omega)).trans zn
    have ta : Boxed Z Ba 4 (.bool false) := (low _ (by omega)).trans za
    have tw : Boxed Z Bw 39 (.slice ao L.length cap) := (low _ (by omega)).trans zw
    have tr := hrow Z (fun b hb => low b (by omega))
    have hTZ : Tab Z := hT0.of0 (low 0 (by omega))
    have hbZ : Below w.heap.size w Z := ((Mv.ofBelow hB).trans ((m0.mono (F' := fun b => b = Bs + 2) (fun _ e => e.elim)).trans hic.mv (fun b e => .inl e)) (fun b e => .inr (by have := hB.size; omega))).toBelow
    have cS := some_any s hs L HL.out Z hTZ
    have HI : Hid (IC W0 (Bs + 2) n Z) := hic
    have HD : Hid (Z.heap[D]? = some (.deferred (some []))) := hK
    have hDl := (Array.getElem?_eq_some_iff.1 hK).1
    clear hK hic
    go_wp2_with fail
    refine cS.mono ?_
    rintro _ Z2 ⟨v, rfl, hR⟩
    have tw2 : Boxed Z2 Bw 39 (.slice ao L.length cap) := (hR.B.block _ tw.lt).trans tw
    have tn2 : Boxed Z2 Bn 3 (.int .i64 (n : Nat)) := (hR.B.block _ tn.lt).trans tn
    have ta2 : Boxed Z2 Ba 4 (.bool false) := (hR.B.block _ ta.lt).trans ta
    have tc2 : Boxed Z2 (Bs + 2) 3 (.int .i64 (n : Nat)) := (hR.B.block _ HI.out.cnt.lt).trans HI.out.cnt
    have tr2 : RowL Z2 (.slice ao L.length cap) L := tr.of_block (fun b hb => hR.B.block b (tr.lt b hb))
    have cQ := sameL_any hR.row tr2 (by omega)
    obtain ⟨a1, c1, rfl⟩ := hR.sl
    have cw2 := tw2.cell
    clear cS
    go_wp2_with fail
    refine cQ.mono ?_
    rintro _ Z3 ⟨rfl, nq, rfl⟩
    have ca2 := ta2.cell
    have fa2 := ta2.frozen
    have cn2 := tn2.cell
    have cc2 := tc2.cell
    clear cQ
    go_wp2_with fail
    have mZ : Mv Z ((Z2.drewN nq).setCell ⟨Ba, 0, none⟩ (.bool true)) (fun b => b = Ba) := (((Mv.ofBelow hR.B).trans (mv_drewN Z2 nq (fun _ => False)) (fun _ e => e.elim)).mono (F' := fun b => b = Ba) (fun _ e => e.elim)).setCell (a := ⟨Ba, 0, none⟩) (Or.inl (rfl : Ba = Ba)) _
    have bz : Boxed ((Z2.drewN nq).setCell ⟨Ba, 0, none⟩ (.bool true)) Ba 4 (.bool true) := Boxed.set _ (box_drewN (n := nq) ta2)
    refine leaves_marks (v := .bool true) [D] _ (by simp) (fun D' hD' => by simp at hD'; rw [hD']; exact (mZ.block _ hDl (fun e => by omega)).trans HD.out) (fun W' m => ?_)
    have bz' : Boxed W' Ba 4 (.bool true) := (m.block _ bz.lt (fun e => by simp at e; omega)).trans bz
    exact ⟨result5 _ _ ⟨Ba, 0, none⟩ rfl bz'.cell, rfl, (((Mv.ofBelow hbZ).trans mZ (fun b e => .inr (by omega))).trans m (fun b e => .inr (by simp at e; have := hbZ.size; have := hB.size; omega))).toBelow⟩
  case stop =>
    rintro D c pre Z hD hpre (⟨rfl, hic⟩ | h) hK
    rotate_left
    · exact absurd hpre h
    have hsZ := hic.mv.size
    have low : ∀ b, b < Bs + 2 → Z.heap[b]? = W0.heap[b]? := fun b hb => hic.mv.block b (by omega) (fun e => by omega)
    have tn : Boxed Z Bn 3 (.int .i64 (n : Nat)) := (low _ (by omega)).trans zn
    have ta : Boxed Z Ba 4 (.bool false) := (low _ (by omega)).trans za
    have tw : Boxed Z Bw 39 (.slice ao L.length cap) := (low _ (by omega)).trans zw
    have tr := hrow Z (fun b hb => low b (by omega))
    have hTZ : Tab Z := hT0.of0 (low 0 (by omega))
    have hbZ : Below w.heap.size w Z := ((Mv.ofBelow hB).trans ((m0.mono (F' := fun b => b = Bs + 2) (fun _ e => e.elim)).trans hic.mv (fun b e => .inl e)) (fun b e => .inr (by have := hB.size; omega))).toBelow
    have cS := some_any s hs L HL.out Z hTZ
    have HI : Hid (IC W0 (Bs + 2) n Z) := hic
    have HD : Hid (Z.heap[D]? = some (.deferred (some []))) := hK
    have hDl := (Array.getElem?_eq_some_iff.1 hK).1
    clear hK hic
    refine wpIn_exit ?_
    go_wp2_with fail
    refine cS.mono ?_
    rintro _ Z2 ⟨v, rfl, hR⟩
    have tw2 : Boxed Z2 Bw 39 (.slice ao L.length cap) := (hR.B.block _ tw.lt).trans tw
    have tn2 : Boxed Z2 Bn 3 (.int .i64 (n : Nat)) := (hR.B.block _ tn.lt).trans tn
    have ta2 : Boxed Z2 Ba 4 (.bool false) := (hR.B.block _ ta.lt).trans ta
    have tc2 : Boxed Z2 (Bs + 2) 3 (.int .i64 (n : Nat)) := (hR.B.block _ HI.out.cnt.lt).trans HI.out.cnt
    have tr2 : RowL Z2 (.slice ao L.length cap) L := tr.of_block (fun b hb => hR.B.block b (tr.lt b hb))
    have cQ := sameL_any hR.row tr2 (by omega)
    obtain ⟨a1, c1, rfl⟩ := hR.sl
    have cw2 := tw2.cell
    clear cS
    go_wp2_with fail
    refine cQ.mono ?_
    rintro _ Z3 ⟨rfl, nq, rfl⟩
    have ca2 := ta2.cell
    have fa2 := ta2.frozen
    have cn2 := tn2.cell
    have cc2 := tc2.cell
    clear cQ
    go_wp2_with fail
    have mZ : Mv Z ((Z2.drewN nq).setCell ⟨Ba, 0, none⟩ (.bool true)) (fun b => b = Ba) := (((Mv.ofBelow hR.B).trans (mv_drewN Z2 nq (fun _ => False)) (fun _ e => e.elim)).mono (F' := fun b => b = Ba) (fun _ e => e.elim)).setCell (a := ⟨Ba, 0, none⟩) (Or.inl (rfl : Ba = Ba)) _
    have bz : Boxed ((Z2.drewN nq).setCell ⟨Ba, 0, none⟩ (.bool true)) Ba 4 (.bool true) := Boxed.set _ (box_drewN (n := nq) ta2)
    refine leaves_marks (v := .bool true) [D] _ (by simp) (fun D' hD' => by simp at hD'; rw [hD']; exact (mZ.block _ hDl (fun e => by omega)).trans HD.out) (fun W' m => ?_)
    have bz' : Boxed W' Ba 4 (.bool true) := (m.block _ bz.lt (fun e => by simp at e; omega)).trans bz
    exact ⟨result5 _ _ ⟨Ba, 0, none⟩ rfl bz'.cell, rfl, (((Mv.ofBelow hbZ).trans mZ (fun b e => .inr (by omega))).trans m (fun b e => .inr (by simp at e; have := hbZ.size; have := hB.size; omega))).toBelow⟩
end Go.Proofs.YtelanneckjgnbaaDoor
