import Derived.Test.YtighocmdlifheaaDoorRq
/-
  TreeAlls: what its loops keep.
-/
namespace Go.Proofs.YtighocmdlifheaaDoor
open Go.RowKit Go.Shelf Go.Sort
set_option linter.unusedVariables false
theorem not_prefix {pre : List Nat} {x m : Nat} (hx : x ≠ pre.length) : ¬ (pre ++ [x]) <+: List.range m := by
  rintro ⟨r, hr⟩
  have h1 : (List.range m)[pre.length]? = some x := by rw [← hr]; simp
  by_cases h : pre.length < m
  · rw [List.getElem?_range h] at h1
    exact hx (Option.some.inj h1).symm
  · rw [List.getElem?_eq_none (by simpa using Nat.le_of_not_lt h)] at h1
    cases h1
theorem keeps_mv {W W' : World} {F : Nat → Prop} (m : Mv W W' F) (B : Nat) (hF : ∀ k, F k → ∀ o, W.heap[k]? = some o → o.isCells = true) : KeepsFrom B W W' :=
  ⟨m.size, fun k o _ hk ho => (m.block k (Array.getElem?_eq_some_iff.1 hk).1 (fun e => by rw [hF k e o hk] at ho; cases ho)).trans hk⟩
theorem keeps_below {W W' : World} (h : Below W.heap.size W W') (B : Nat) : KeepsFrom B W W' := keeps_mv (Mv.ofBelow h) B (fun _ e => e.elim)
theorem mv_drewN (Y : World) (n : Nat) (F : Nat → Prop) : Mv Y (Y.drewN n) F := ⟨rfl, rfl, rfl, Nat.le_refl _, fun _ _ _ => rfl⟩
theorem Mv.kc {W W' : World} {F : Nat → Prop} (h : Mv W W' F) : Kc F W W' := ⟨h.size, fun b cs t fr hv hb => h.block b (Array.getElem?_eq_some_iff.1 hb).1 hv⟩
/-- So many have come, and but for that box the world has only grown. -/
structure IC (W0 : World) (Bk k : Nat) (W : World) : Prop where
  mv : Mv W0 W (fun b => b = Bk)
  cnt : Boxed W Bk 3 (.int .i64 (k : Nat))
theorem IC.hid {W0 : World} {Bk k : Nat} {W : World} (h : IC W0 Bk k W) : Hid (IC W0 Bk k W) := h
theorem ic_grown {W0 W W' : World} {Bk k : Nat} {row : Option Nat} (h : IC W0 Bk k W) (hg : W.grownBy W' row) (hr : ∀ r, row = some r → W0.heap.size ≤ r ∧ ∃ o : Obj, W.heap[r]? = some o ∧ o.isCells = false) : IC W0 Bk k W' :=
  ⟨h.mv.grown hg (fun k e => .inr (hr k e).1), boxed_own Bk 3 (fun (_ : Unit) => _) () W W' row h.cnt hg (fun x e => (hr x e).2)⟩
theorem IC.below {W0 W W' : World} {Bk k : Nat} (h : IC W0 Bk k W) (hb : Below W.heap.size W W') : IC W0 Bk k W' :=
  ⟨h.mv.trans (Mv.ofBelow hb) (fun _ e => e.elim), (hb.block _ h.cnt.lt).trans h.cnt⟩
/-- The count, one up. -/
theorem IC.up {W0 W W' : World} {Bk k : Nat} (h : IC W0 Bk k W) (hb : Mv W W' (fun _ => False)) : IC W0 Bk (k + 1) (W'.setCell ⟨Bk, 0, none⟩ (.int .i64 ((k : Int) + 1))) ∧ Mv W (W'.setCell ⟨Bk, 0, none⟩ (.int .i64 ((k : Int) + 1))) (fun b => b = Bk) := by
  have m : Mv W (W'.setCell ⟨Bk, 0, none⟩ (.int .i64 ((k : Int) + 1))) (fun b => b = Bk) := (hb.mono (F' := fun b => b = Bk) (fun _ e => e.elim)).setCell (a := ⟨Bk, 0, none⟩) (Or.inl (rfl : Bk = Bk)) _
  refine ⟨⟨h.mv.trans m (fun _ e => .inl e), ?_⟩, m⟩
  rw [show ((k + 1 : Nat) : Int) = (k : Int) + 1 by omega]
  exact Boxed.set _ (show Boxed W' Bk 3 _ from (hb.block _ h.cnt.lt (fun e => e)).trans h.cnt)
theorem keeps_box {W W' : World} {Bk : Nat} {t : TypeId} {v : Value} (m : Mv W W' (fun b => b = Bk)) (hb : Boxed W Bk t v) (B : Nat) : KeepsFrom B W W' :=
  keeps_mv m B (fun k e o ho => by subst e; rw [show W.heap[k]? = _ from hb] at ho; cases ho; rfl)
theorem ic_own (W0 : World) (Bk : Nat) (p : List Nat → Prop) : OwnFrom W0.heap.size (fun (pre : List Nat) W => p pre ∧ IC W0 Bk pre.length W) :=
  fun pre W W' row hs hg hr => ⟨hs.1, ic_grown hs.2 hg hr⟩
theorem boxed_grown {W W' : World} {B : Nat} {t : TypeId} {v : Value} {row : Option Nat} {C : Nat} (h : Boxed W B t v) (hg : W.grownBy W' row) (hr : ∀ r, row = some r → C ≤ r ∧ ∃ o : Obj, W.heap[r]? = some o ∧ o.isCells = false) : Boxed W' B t v :=
  boxed_own B t (fun (_ : Unit) => _) () W W' row h hg (fun x e => (hr x e).2)
theorem ndh_grown {W W' : World} {B : Nat} {m : Nd} {row : Option Nat} {C : Nat} (h : NdH W B m) (hg : W.grownBy W' row) (hr : ∀ r, row = some r → C ≤ r ∧ ∃ o : Obj, W.heap[r]? = some o ∧ o.isCells = false) : NdH W' B m :=
  (hg.block B h.lt (fun e => by
    obtain ⟨_, o, ho, hc⟩ := hr B e.symm
    rw [show W.heap[B]? = _ from h] at ho
    cases ho
    cases hc)).trans h
/-- What a round is handed. -/
def dN : Nd := .mk ⟨0, 0, 0, 0, 0, ⟨#[]⟩, 0⟩ none 0 []
def nX (N : List Nd) (x : Nat) : Nd := cutN (N.getD x dN)
theorem enc_nX (N : List Nd) (x : Nat) : encN N x = #[.agg (nX N x).vals] := rfl
theorem ax_own {C : Nat} (a' : Act) (A : Nat → Act) (X : Nd) : OwnFrom C (fun (_ : Unit) W => ∃ Bt, a' = A Bt ∧ NdH W Bt X) := by
  intro u W W' row hs hg hr
  obtain ⟨Bt, e, h⟩ := hs
  exact ⟨Bt, e, ndh_grown h hg hr⟩
theorem mem_pres {k : Nd} : ∀ {ks : List Nd}, k ∈ pres ks → ∃ j ∈ ks, k ∈ pre j
  | [], h => by simp [pres] at h
  | j :: js, h => by
    simp only [pres, List.mem_append] at h
    rcases h with h | h
    · exact ⟨j, by simp, h⟩
    · obtain ⟨i, h1, h2⟩ := mem_pres h
      exact ⟨i, List.mem_cons_of_mem _ h1, h2⟩
theorem lies_pre {w : World} : ∀ (m : Nd), Lies w m → ∀ k ∈ pre m, Lies w k := by
  refine Nd.ind fun h a c ks ih hl k hk => ?_
  simp only [pre, List.mem_cons] at hk
  rcases hk with rfl | hk
  · exact hl
  · obtain ⟨j, h1, h2⟩ := mem_pres hk
    exact ih j h1 (hl.sub j h1) k h2
theorem liesX {w : World} {m : Nd} (hl : Lies w m) (x : Nat) : Lies w (nX (pre m) x) := by
  unfold nX
  by_cases hx : x < (pre m).length
  · rw [List.getD_eq_getElem?_getD, List.getElem?_eq_getElem hx, Option.getD_some]
    have := lies_pre m hl _ (List.getElem_mem hx)
    generalize (pre m)[x] = q at this ⊢
    obtain ⟨h, a, c, ks⟩ := q
    exact this.cut (Nat.le_refl _) (Nat.le_trans this.cap this.max)
  · rw [List.getD_eq_getElem?_getD, List.getElem?_eq_none (by omega), Option.getD_none]
    exact .mk _ none 0 [] (by constructor <;> first | decide | (show (0 : Nat) ≤ _; omega)) (by simp) (by simp) (fun i hi => by simp at hi) (fun k hk => by simp at hk)
theorem liesK {w : World} {m : Nd} (hl : Lies w m) {k : Nat} (hk : k < (pre m).length) : Lies w (ldF (pre m) k) := by
  unfold ldF
  rw [List.getD_eq_getElem?_getD, List.getElem?_eq_getElem hk, Option.getD_some]
  exact lies_pre m hl _ (List.getElem_mem hk)
theorem nX_at {N : List Nd} {k : Nat} (hk : k < N.length) : nX N k = cutN (ldF N k) := by
  unfold nX ldF
  rw [List.getD_eq_getElem?_getD, List.getD_eq_getElem?_getD, List.getElem?_eq_getElem hk]
  rfl
theorem same_at {N : List Nd} {k : Nat} (hk : k < N.length) : idB (nX N k) (ldF N k) = true := by
  rw [nX_at hk]
  exact twin_id _ _ (Twin.cut _)
theorem kind_at {N : List Nd} {k : Nat} (hk : k < N.length) : (nX N k).h.k = (ldF N k).h.k := by
  rw [nX_at hk]
  cases ldF N k
  rfl
theorem result4 (tmps : Array Value) (W : World) (a : Addr) (h : tmps[4]?.getD undef = .pointer (some a)) (hc : W.cell? a = some (.bool true)) : (results Tryd.f4 tmps).run Tryd.prog W = .ok (.bool true) W := by
  simp [results, go_sem, h, hc]
def cSnd : Code → Code
  | .seq _ b => b
  | c => c
end Go.Proofs.YtighocmdlifheaaDoor

/-
  TreeAlls: its third loop, and the end.
-/
namespace Go.Proofs.YtighocmdlifheaaDoor
open Go.RowKit Go.Shelf Go.Sort
set_option linter.unusedVariables false
attribute [local go_sem] Oper.semAt_some
/-- The ways out of the third loop. -/
def IX3 (W0 : World) (Bk Ba L : Nat) (c : Code) (pr : List Nat) (W : World) : Prop := (c = .ret ∧ Mv W0 W (fun b => b = Bk ∨ b = Ba) ∧ Boxed W Ba 4 (.bool true)) ∨ ¬ pr <+: List.range L
theorem ix3_own (W0 : World) (Bk Ba L : Nat) (c : Code) : OwnFrom W0.heap.size (IX3 W0 Bk Ba L c) :=
  fun pr W W' row hs hg hr => hs.elim (fun h => .inl ⟨h.1, h.2.1.grown hg (fun k e => .inr (hr k e).1), boxed_grown h.2.2 hg hr⟩) .inr
set_option maxRecDepth 1000000 in
set_option maxHeartbeats 8000000 in
theorem alls_end (C : Code) (hC : cSnd (cSnd (cSnd (cSnd (cSnd (cSnd (cSnd (cSnd (cSnd (Tryd.f4.body.getD .skip))))))))) = C) (m : Nd) (w W : World) (hl : Lies w m) (hB : Below w.heap.size w W) (hz : (pre m).length ≤ 1000000000) (Bm Ba Bw Bs Bf Bi g cap : Nat) (most iv : Int)
    (bm : Boxed W Bm 3 (.int .i64 most)) (ba : Boxed W Ba 4 (.bool false)) (bw : Boxed W Bw 26 (.slice (some ⟨g, 0, none⟩) (pre m).length cap)) (bs : NdH W Bs m) (bf : Boxed W Bf 56 (.func (.func 43) #[] #[.pointer (some ⟨Bs, 0, none⟩)])) (bi : Boxed W Bi 3 (.int .i64 iv))
    (hrow : ∀ j, j < (pre m).length → NdAt W g (j * 8) (ldF (pre m) j)) (hcap : (pre m).length ≤ cap) (hwa : w.heap.size ≤ Ba)
    (hiv : iv = ((pre m).length : Nat) ∨ iv = most) (D : Nat) (hD : W.heap[D]? = some (.deferred (some []))) (hDw : w.heap.size ≤ D)
    (g0 g1 g2 g5 g6 g10 g11 g12 g13 g14 g15 g16 g17 g18 g19 g20 g21 g22 g23 g24 g25 g26 g27 g28 g29 g30 g31 g32 g33 g34 g35 g36 g37 g38 g39 g40 g41 g42 g43 g44 g45 g46 g47 g48 g49 g50 g51 g52 g53 g54 g55 g56 g57 g58 g59 g60 g61 g62 g63 g64 g65 g66 g67 g68 g69 g70 g71 g72 g73 g74 g75 g76 g77 g78 g79 g80 g81 g82 g83 g84 g85 g86 g87 g88 g89 g90 g91 g92 g93 g94 g95 g96 g97 g98 g99 g100 g101 g102 g103 g104 g105 g106 g107 g108 g109 g110 g111 g112 g113 g114 g115 g116 : Value) :
    Code.wp Tryd.prog C (bodyPostM Fence.wide 3 Tryd.prog Tryd.f4 fun e w' => e = .returned (.bool true) ∧ Below w.heap.size w w') { tmps := #[g0, g1, g2, .pointer (some ⟨Bm, 0, none⟩), .pointer (some ⟨Ba, 0, none⟩), g5, g6, .pointer (some ⟨Bw, 0, none⟩), .pointer (some ⟨Bf, 0, none⟩), .pointer (some ⟨Bi, 0, none⟩), g10, g11, g12, g13, g14, g15, g16, g17, g18, g19, g20, g21, g22, g23, g24, g25, g26, g27, g28, g29, g30, g31, g32, g33, g34, g35, g36, g37, g38, g39, g40, g41, g42, g43, g44, g45, g46, g47, g48, g49, g50, g51, g52, g53, g54, g55, g56, g57, g58, g59, g60, g61, g62, g63, g64, g65, g66, g67, g68, g69, g70, g71, g72, g73, g74, g75, g76, g77, g78, g79, g80, g81, g82, g83, g84, g85, g86, g87, g88, g89, g90, g91, g92, g93, g94, g95, g96, g97, g98, g99, g100, g101, g102, g103, g104, g105, g106, g107, g108, g109, g110, g111, g112, g113, g114, g115, g116], defers := [{ target := .collected D, args := #[] }] } W := by
  obtain ⟨Bk, hBk⟩ : ∃ x, W.heap.size = x := ⟨_, rfl⟩
  obtain ⟨W0, hW0⟩ : ∃ V, W.alloc (.cells #[.int .i64 0] 3) = V := ⟨_, rfl⟩
  have s0 : W0.heap.size = Bk + 1 := by rw [← hW0]; simp [hBk]
  have b0 : Below W.heap.size W W0 := by rw [← hW0]; exact below_new _ _
  have zk : Boxed W0 Bk 3 (.int .i64 0) := by rw [← hW0, ← hBk]; exact Boxed.new W 3 _
  have lm : Bm < Bk := by have := bm.lt; omega
  have la : Ba < Bk := by have := ba.lt; omega
  have lw : Bw < Bk := by have := bw.lt; omega
  have ls : Bs < Bk := by have := bs.lt; omega
  have lf : Bf < Bk := by have := bf.lt; omega
  have li : Bi < Bk := by have := bi.lt; omega
  have lD : D < Bk := by have := (Array.getElem?_eq_some_iff.1 hD).1; omega
  have zm : Boxed W0 Bm 3 (.int .i64 most) := (b0.block _ bm.lt).trans bm
  have za : Boxed W0 Ba 4 (.bool false) := (b0.block _ ba.lt).trans ba
  have zw : Boxed W0 Bw 26 (.slice (some ⟨g, 0, none⟩) (pre m).length cap) := (b0.block _ bw.lt).trans bw
  have zs : NdH W0 Bs m := bs.on b0
  have zf : Boxed W0 Bf 56 (.func (.func 43) #[] #[.pointer (some ⟨Bs, 0, none⟩)]) := (b0.block _ bf.lt).trans bf
  have zi : Boxed W0 Bi 3 (.int .i64 iv) := (b0.block _ bi.lt).trans bi
  have zr : ∀ j, j < (pre m).length → NdAt W0 g (j * 8) (ldF (pre m) j) := fun j hj => (hrow j hj).on b0
  have zD : W0.heap[D]? = some (.deferred (some [])) := (b0.block _ (by omega)).trans hD
  have hB0 : Below w.heap.size w W0 := below2 hB b0
  have cf := zf.cell
  have HW0 : Hid (W.alloc (.cells #[.int .i64 0] 3) = W0) := hW0
  have cf' : (W.alloc (.cells #[.int .i64 0] 3)).cell? ⟨Bf, 0, none⟩ = some (.func (.func 43) #[] #[.pointer (some ⟨Bs, 0, none⟩)]) := by rw [hW0]; exact cf
  simp only [cSnd, Tryd.f4, Option.getD_some] at hC
  rw [← hC]
  clear hC hW0
  go_wp2_with fail
  rw [HW0.out]
  clear HW0 cf' cf
  refine (wpIn_wide (n := 12)).1 ?_
  refine wpIn_rangeFunc_ownH rfl (by omega) (gf := 43) (lb := #[.pointer (some ⟨Bs, 0, none⟩)]) rfl trivial (enters_of Tryd.func43 (by kernel_rfl) rfl)
    (all_stops 11 m (fun b => b = Bk) Bs w W0 hl hB0 (fun b hb => by have := hB.size; omega) zs)
    (fun h k => h.trans k) ?hKb (Below.refl _ _) (fun _ => rfl)
    (fun pr Y => True ∧ IC W0 Bk pr.length Y)
    (IX3 W0 Bk Ba (pre m).length)
    (ic_own _ _ _) (fun c => ix3_own _ _ _ _ c) ⟨trivial, Mv.refl _ _, zk⟩
    (fun x a' Y => ∃ Bt, a' = { tmps := #[g0, g1, g2, .pointer (some ⟨Bm, 0, none⟩), .pointer (some ⟨Ba, 0, none⟩), g5, g6, .pointer (some ⟨Bw, 0, none⟩), .pointer (some ⟨Bf, 0, none⟩), .pointer (some ⟨Bi, 0, none⟩), g10, g11, g12, g13, g14, .pointer (some ⟨Bk, 0, none⟩), .pointer (some ⟨Bt, 0, none⟩), g17, g18, g19, g20, g21, g22, g23, g24, g25, g26, g27, g28, g29, g30, g31, g32, g33, g34, g35, g36, g37, g38, g39, g40, g41, g42, g43, g44, g45, g46, g47, g48, g49, g50, g51, g52, g53, g54, g55, g56, g57, g58, g59, g60, g61, g62, g63, g64, g65, g66, g67, g68, g69, g70, g71, g72, g73, g74, g75, g76, g77, .func (.func 43) #[] #[.pointer (some ⟨Bs, 0, none⟩)], .agg (nX (pre m) x).vals, g80, g81, g82, g83, g84, g85, g86, g87, g88, g89, g90, g91, g92, g93, g94, g95, g96, g97, g98, g99, g100, g101, g102, g103, g104, g105, g106, g107, g108, g109, g110, g111, g112, g113, g114, g115, g116], defers := [] } ∧ NdH Y Bt (nX (pre m) x))
    (fun x a' => ax_own a' _ _) ?assign ?body ?done ?stop
  case hKb => exact fun Y l o o' h1 h2 h3 h4 => Kc.bound (w := W0) Y l o o' h1 h2 h3 h4
  case assign =>
    rintro lo pr x Y K hi hK
    rw [enc_nX]
    obtain ⟨X, eX⟩ : ∃ X, nX (pre m) x = X := ⟨_, rfl⟩
    rw [eX] at hK ⊢
    have HK : Hid (∀ a', (∃ Bt, a' = _ ∧ NdH (Y.alloc (.cells X.vals 28)) Bt X) → K a' (Y.alloc (.cells X.vals 28))) := fun a' hA => hK a' _ (keeps_below (below_new _ _) _) (Kc.of_below (below_new _ _)) ⟨trivial, hi.2.below (below_new _ _)⟩ hA
    clear hK hi eX
    unfold Nd.vals hdA at HK ⊢
    gi_wp2
    exact HK.out _ ⟨Y.heap.size, rfl, heap_new _ _⟩
  case body =>
    rintro lo pr x a' Y hlo _ ⟨_, hic⟩ ⟨Bt, rfl, hX⟩ hlen
    obtain ⟨k, hk⟩ : ∃ k, pr.length = k := ⟨_, rfl⟩
    have HPK : Hid (pr.length = k) := hk
    have HPK1 : Hid ((pr ++ [x]).length = k + 1) := by show _ = _; rw [List.length_append, hk]; rfl
    rw [hk] at hic hlen
    have low : ∀ b, b < Bk → Y.heap[b]? = W0.heap[b]? := fun b hb => hic.mv.block b (by omega) (fun e => by omega)
    have ta : Boxed Y Ba 4 (.bool false) := (low _ la).trans za
    have tw : Boxed Y Bw 26 (.slice (some ⟨g, 0, none⟩) (pre m).length cap) := (low _ lw).trans zw
    have hgl : g < Bk := by have := (hrow k hlen).lt; omega
    have tr := (zr k hlen).blk (low g hgl)
    have hkind : x = k → (nX (pre m) x).h.k = (ldF (pre m) k).h.k := fun e => by rw [e]; exact kind_at hlen
    obtain ⟨X, eX⟩ : ∃ X, nX (pre m) x = X := ⟨_, rfl⟩
    obtain ⟨U, eU⟩ : ∃ U, ldF (pre m) k = U := ⟨_, rfl⟩
    rw [eX] at hX hkind ⊢
    rw [eU] at tr hkind
    have HKD : Hid (x = k → X.h.k = U.h.k) := hkind
    have r0 := tr.c0
    have y0 : Y.cell? ⟨Bt, 0, none⟩ = some (.int .u8 X.h.k) := cell_of hX 0
    have ca := ta.cell
    have fa := ta.frozen
    have cw := tw.cell
    have cc := hic.cnt.cell
    have fc := hic.cnt.frozen
    have hl1 : (k : Int) < ((pre m).length : Int) := by omega
    have hl2 : ¬ ((pre m).length : Int) ≤ (k : Int) := by omega
    have hl3 : decide (((pre m).length : Int) ≤ (k : Int)) = false := decide_eq_false hl2
    have hl4 : decide ((pre m).length ≤ k) = false := decide_eq_false (by omega)
    have hmx : (k : Int) + 1 ≤ 9223372036854775807 := by omega
    have HIC := hic.hid
    have HTA : Hid (Boxed Y Ba 4 (.bool false)) := ta
    clear hic low ta tw tr hX eX eU hkind hk
    by_cases h2 : 200 < k
    · have h2a : (200 : Int) < (k : Int) := by omega
      have h2b : decide ((200 : Int) < (k : Int)) = true := decide_eq_true h2a
      clear h2
      gi_wp2
      refine wpIn_region_round (by kernel_rfl) (by kernel_rfl) (by kernel_rfl) ?_
      repeat (go_big_quiet_step (fail))
      refine wpQuiet_nil ?_
      intro _ hw'
      obtain ⟨nq, hw''⟩ := hw'
      subst hw''
      gi_wp2
      have mm : Mv Y ((Y.drewN nq).setCell ⟨Ba, 0, none⟩ (.bool true)) (fun b => b = Ba) := (mv_drewN Y nq (fun b => b = Ba)).setCell (a := ⟨Ba, 0, none⟩) (Or.inl (rfl : Ba = Ba)) _
      exact ⟨keeps_box mm HTA.out _, .inl ⟨rfl, (HIC.out.mv.mono (F' := fun b => b = Bk ∨ b = Ba) (fun b e => .inl e)).trans mm (fun b e => .inl (.inr e)), Boxed.set _ (show Boxed (Y.drewN nq) Ba 4 (.bool false) from HTA.out)⟩⟩
    · have h2a : ¬ (200 : Int) < (k : Int) := by omega
      have h2b : decide ((200 : Int) < (k : Int)) = false := decide_eq_false h2a
      have h2c : (k : Int) ≤ 200 := by omega
      clear h2
      by_cases hq : X.h.k = U.h.k
      · rw [hq] at y0
        have hne : ∀ a : Int, (decide (a = a)) = true := fun a => by simp
        gi_wp2
        refine wpIn_region_round (by kernel_rfl) (by kernel_rfl) (by kernel_rfl) ?_
        repeat (go_big_quiet_step (fail))
        refine wpQuiet_nil ?_
        intro _ hw'
        obtain ⟨nq, hw''⟩ := hw'
        subst hw''
        gi_wp2
        obtain ⟨u1, u2⟩ := HIC.out.up (mv_drewN Y nq (fun _ => False))
        exact ⟨keeps_box u2 HIC.out.cnt _, u2.kc, trivial, by rw [HPK1.out]; exact u1⟩
      · have hnk : (X.h.k != U.h.k) = true := bne_iff_ne.2 hq
        have HQ : Hid (¬ X.h.k = U.h.k) := hq
        clear hq
        gi_wp2
        refine wpIn_region_round (by kernel_rfl) (by kernel_rfl) (by kernel_rfl) ?_
        repeat (go_big_quiet_step (fail))
        refine wpQuiet_nil ?_
        intro _ hw'
        obtain ⟨nq, hw''⟩ := hw'
        subst hw''
        gi_wp2
        have mm : Mv Y ((Y.drewN nq).setCell ⟨Ba, 0, none⟩ (.bool false)) (fun b => b = Ba) := (mv_drewN Y nq (fun b => b = Ba)).setCell (a := ⟨Ba, 0, none⟩) (Or.inl (rfl : Ba = Ba)) _
        exact ⟨keeps_box mm HTA.out _, .inr (not_prefix (by rw [HPK.out]; exact fun e => HQ.out (HKD.out e)))⟩
  case done =>
    rintro D3 xs Z hD3 rfl ⟨_, hic⟩ hK
    rw [List.length_range] at hic
    have low : ∀ b, b < Bk → Z.heap[b]? = W0.heap[b]? := fun b hb => hic.mv.block b (by omega) (fun e => by omega)
    have ta : Boxed Z Ba 4 (.bool false) := (low _ la).trans za
    have tw : Boxed Z Bw 26 (.slice (some ⟨g, 0, none⟩) (pre m).length cap) := (low _ lw).trans zw
    have tm : Boxed Z Bm 3 (.int .i64 most) := (low _ lm).trans zm
    have ti : Boxed Z Bi 3 (.int .i64 iv) := (low _ li).trans zi
    have tD : Z.heap[D]? = some (.deferred (some [])) := (low _ lD).trans zD
    have ca := ta.cell
    have fa := ta.frozen
    have cw := tw.cell
    have cm := tm.cell
    have ci := ti.cell
    have ck := hic.cnt.cell
    have HA : Hid (Boxed Z Ba 4 (.bool false)) := ta
    have HDD : Hid (D3 ≠ D ∧ Z.heap[D3]? = some (.deferred (some [])) ∧ Z.heap[D]? = some (.deferred (some []))) := ⟨by omega, hK, tD⟩
    have HBZ : Hid (Mv W0 Z (fun b => b = Bk)) := hic.mv
    clear hic low ta tw tm ti tD hK
    have hfin : ∀ (tmps : Array Value), tmps[4]?.getD undef = .pointer (some ⟨Ba, 0, none⟩) → LeavesInM Fence.wide 3 Tryd.prog Tryd.f4 tmps (fun e w' => e = .returned (.bool true) ∧ Below w.heap.size w w') ([D3, D].map dmark) .returning (Z.setCell ⟨Ba, 0, none⟩ (.bool true)) := by
      intro tmps ht
      have mm : Mv Z (Z.setCell ⟨Ba, 0, none⟩ (.bool true)) (fun b => b = Ba) := (Mv.refl Z (fun b => b = Ba)).setCell (a := ⟨Ba, 0, none⟩) (Or.inl (rfl : Ba = Ba)) _
      have h3 := (Array.getElem?_eq_some_iff.1 HDD.out.2.1).1
      have h4 := (Array.getElem?_eq_some_iff.1 HDD.out.2.2).1
      have hne1 : D3 ≠ Ba := by omega
      have hne2 : D ≠ Ba := fun e => by
        have := HDD.out.2.2
        rw [e, show Z.heap[Ba]? = _ from HA.out] at this
        cases this
      refine leaves_marks (v := .bool true) [D3, D] _ (by simp [HDD.out.1]) (fun D' hD' => ?_) (fun W' m' => ?_)
      · rcases List.mem_cons.1 hD' with rfl | hD'
        · exact (mm.block _ h3 hne1).trans HDD.out.2.1
        · obtain rfl := List.mem_singleton.1 hD'
          exact (mm.block _ h4 hne2).trans HDD.out.2.2
      · have bz : Boxed (Z.setCell ⟨Ba, 0, none⟩ (.bool true)) Ba 4 (.bool true) := Boxed.set _ HA.out
        have bz' : Boxed W' Ba 4 (.bool true) := (m'.block _ bz.lt (fun e => by simp at e; rcases e with e | e <;> omega)).trans bz
        refine ⟨result4 _ _ ⟨Ba, 0, none⟩ ht bz'.cell, rfl, ?_⟩
        exact ((((Mv.ofBelow hB0).trans HBZ.out (fun b e => .inr (by have := hB.size; omega))).trans mm (fun b e => .inr (by omega))).trans m' (fun b e => .inr (by simp at e; have := hB.size; rcases e with e | e <;> omega))).toBelow
    have HF : Hid (_) := hfin
    clear hfin
    have hkk : ((((pre m).length : Nat) : Int) == (((pre m).length : Nat) : Int)) = true := beq_self_eq_true _
    by_cases he : iv = ((pre m).length : Nat)
    · subst he
      go_wp2_with fail
      exact HF.out _ rfl
    · have he' : (iv == (((pre m).length : Nat) : Int)) = false := beq_false_of_ne he
      obtain rfl : iv = most := hiv.resolve_left he
      go_wp2_with fail
      exact HF.out _ rfl
  case stop =>
    rintro D3 c pr Z hD3 hpre (⟨rfl, hm, ha⟩ | h) hK
    rotate_left
    · exact absurd hpre h
    have tD : Z.heap[D]? = some (.deferred (some [])) := (hm.block _ (by omega) (fun e => by
      rcases e with e | e
      · omega
      · have := zD
        rw [e, show W0.heap[Ba]? = _ from za] at this
        cases this)).trans zD
    have hfin : ∀ (tmps : Array Value), tmps[4]?.getD undef = .pointer (some ⟨Ba, 0, none⟩) → LeavesInM Fence.wide 3 Tryd.prog Tryd.f4 tmps (fun e w' => e = .returned (.bool true) ∧ Below w.heap.size w w') ([D3, D].map dmark) .returning Z := by
      intro tmps ht
      have hne2 : D ≠ Ba := fun e => by
        rw [e, show Z.heap[Ba]? = _ from ha] at tD
        cases tD
      refine leaves_marks (v := .bool true) [D3, D] _ (by simp; omega) (fun D' hD' => ?_) (fun W' m' => ?_)
      · rcases List.mem_cons.1 hD' with rfl | hD'
        · exact hK
        · obtain rfl := List.mem_singleton.1 hD'
          exact tD
      · have bz' : Boxed W' Ba 4 (.bool true) := (m'.block _ ha.lt (fun e => by simp at e; rcases e with e | e <;> omega)).trans ha
        refine ⟨result4 _ _ ⟨Ba, 0, none⟩ ht bz'.cell, rfl, ?_⟩
        exact (((Mv.ofBelow hB0).trans hm (fun b e => .inr (by have := hB.size; rcases e with e | e <;> omega))).trans m' (fun b e => .inr (by simp at e; have := hB.size; rcases e with e | e <;> omega))).toBelow
    have HF : Hid (_) := hfin
    clear hfin
    refine wpIn_ret ?_
    exact HF.out _ rfl
end Go.Proofs.YtighocmdlifheaaDoor
