/-
  SameExpr: are two expressions the same, but for places?
-/
import Derived.Test.YtighocmdlifheaaDoorDp
namespace Go.Proofs.YtighocmdlifheaaDoor
open Go.RowKit
theorem alike_eq {g h : Hd} (e : alike g h = true) : selfA h = selfA g := by
  unfold alike at e
  simp only [Bool.and_eq_true, decide_eq_true_eq] at e
  obtain ⟨e0, e1, e2, e3, e4, e5⟩ := e
  unfold selfA
  rw [← e0, ← e1, ← e2, ← e3, ← e4, ← e5]
theorem enter21 (args : Array Value) (v : World) : Sem.run Tryd.prog (callFunc 21 args) v = .ok (.enter 21 args) v := by kernel_rfl
set_option maxRecDepth 100000 in
set_option maxHeartbeats 4000000 in
theorem eqf_any (js ks : List Nd) (a b : Option Addr) (c d : Nat) (hj : js.length ≤ c) (hjm : c ≤ 9223372036854775807)
    (ih : ∀ j ∈ js, ∀ (k : Nd) (w : World), Lies w j → Lies w k → Calls Tryd.prog 21 #[.agg j.vals, .agg k.vals] w fun e w' => e = .returned (.bool (sameB j k)) ∧ Below w.heap.size w w')
    (g h : Hd) (w : World) (hl : Lies w (.mk g a c js)) (hk : Lies w (.mk h b d ks)) :
    Calls Tryd.prog 46 #[.slice a js.length c, .slice b ks.length d, .func (.func 21) #[] #[]] w fun e w' => e = .returned (.bool (decide (js.length = ks.length) && samesB js ks)) ∧ Below w.heap.size w w' := by
  by_cases hn : js.length = ks.length
  · rw [decide_eq_true hn, Bool.true_and]
    have hn' : ((js.length : Int) != (ks.length : Int)) = false := by simp; omega
    have hn2 : (js.length : Int) = (ks.length : Int) := by omega
    have HN : Hid (js.length = ks.length) := hn
    have HL := hl.hid
    have HK := hk.hid
    have HI : Hid (∀ j ∈ js, ∀ (k : Nd) (w : World), Lies w j → Lies w k → Calls Tryd.prog 21 #[.agg j.vals, .agg k.vals] w fun e w' => e = .returned (.bool (sameB j k)) ∧ Below w.heap.size w w') := ih
    obtain ⟨L, eL⟩ : ∃ L, ks.length = L := ⟨_, rfl⟩
    rw [eL] at hn hn' hn2 HN ⊢
    have HEL : Hid (ks.length = L) := eL
    have e1 : js.length = L := hn
    rw [e1] at hn' hn2 hj ⊢
    have HJL : Hid (js.length = L) := e1
    clear hl hk ih hn eL e1 HN hn2
    have hn' : ((L : Int) != (L : Int)) = false := by simp
    go_enter Tryd.func46, Tryd.ntmps46
    go_wp2_with fail
    go_loopw [7, 8, 9, 17] (fun _ _ _ t wr => ∃ i : Nat, i ≤ L ∧ t = .int .i64 i ∧ Below w.heap.size w wr ∧ Hid (samesB js ks = samesB (js.drop i) (ks.drop i))) (fun _ _ _ t _ => L - (intOf t).toNat)
    case atStart => exact ⟨0, by omega, rfl, Below.refl _ _, by show _ = _; simp⟩
    case round =>
      obtain ⟨i, hi, rfl, hbr, HR⟩ := hrel
      have HBR : Hid (Below w.heap.size w wr) := hbr
      clear hbr
      by_cases hlt : i < L
      · have hlt' : (i : Int) < (L : Int) := by omega
        have h1 : i < js.length := by rw [HJL.out]; exact hlt
        have h2 : i < ks.length := by rw [HEL.out]; exact hlt
        obtain ⟨b1, o1, e1, hat1⟩ := (HL.out.on HBR.out).kid i h1
        obtain ⟨b2, o2, e2, hat2⟩ := (HK.out.on HBR.out).kid i h2
        have e1' : a = some ⟨b1, o1, none⟩ := e1
        have e2' : b = some ⟨b2, o2, none⟩ := e2
        have cI := HI.out js[i] (nth_mem h1) ks[i]
        have HLj : Hid (Lies w js[i]) := HL.out.sub js[i] (nth_mem h1)
        have HLk : Hid (Lies w ks[i]) := HK.out.sub ks[i] (nth_mem h2)
        have HD : Hid (samesB js ks = (sameB js[i] ks[i] && samesB (js.drop (i + 1)) (ks.drop (i + 1)))) := by show _ = _; rw [HR.out, drop_nth h1, drop_nth h2]; rfl
        have hj1 : NdAt wr b1 (o1 + i * 8) js[i] := hat1
        have hk1 : NdAt wr b2 (o2 + i * 8) ks[i] := hat2
        clear hat1 hat2
        obtain ⟨j, ej⟩ : ∃ j, js[i] = j := ⟨_, rfl⟩
        obtain ⟨k, ek⟩ : ∃ k, ks[i] = k := ⟨_, rfl⟩
        rw [ej] at hj1 HD HLj cI
        rw [ek] at hk1 HD HLk cI
        clear e1 e2
        subst e1' e2'
        obtain ⟨y0, y1, y2, y3, y4, y5, y6, y7⟩ := hj1
        have hat2' : NdAt (wr.alloc (.cells #[.int .u8 j.h.k, .int .u8 j.h.o, .int .u8 j.h.t, .int .i64 j.h.n, .int .u8 j.h.f, .string j.h.x, .slice j.a j.ks.length j.c, .int .i64 j.h.p] 28)) b2 (o2 + i * 8) k := hk1.on (below_new _ _)
        obtain ⟨z0, z1, z2, z3, z4, z5, z6, z7⟩ := hat2'
        have hb2 := hk1.lt
        obtain ⟨B, eB⟩ : ∃ B, sameB j k = B := ⟨_, rfl⟩
        rw [eB] at HD cI
        have hmx : (i : Int) + 1 ≤ 9223372036854775807 := by omega
        have cI : ∀ v, Lies v j → Lies v k → Calls Tryd.prog 21 #[.agg #[.int .u8 j.h.k, .int .u8 j.h.o, .int .u8 j.h.t, .int .i64 j.h.n, .int .u8 j.h.f, .string j.h.x, .slice j.a j.ks.length j.c, .int .i64 j.h.p], .agg #[.int .u8 k.h.k, .int .u8 k.h.o, .int .u8 k.h.t, .int .i64 k.h.n, .int .u8 k.h.f, .string k.h.x, .slice k.a k.ks.length k.c, .int .i64 k.h.p]] v fun e w' => e = .returned (.bool B) ∧ Below v.heap.size v w' := cI
        have hj21 := fun args v => enter21 args v
        clear eB ej ek HR hk1 h1 h2
        cases B with
        | true =>
          go_wp2_with (with_reducible refine (cI _ (HLj.out.on (below2 HBR.out (below_two _ _ _))) (HLk.out.on (below2 HBR.out (below_two _ _ _)))).mono ?_; rintro e w5 ⟨rfl, hb5⟩)
          have HB5 : Hid (Below w.heap.size w w5) := below2 (below2 HBR.out (below_two _ _ _)) hb5
          exact ⟨⟨i + 1, hlt, rfl, HB5.out, by show _ = _; rw [HD.out]; rfl⟩, by simp only [intOf]; omega⟩
        | false =>
          go_wp2_with (with_reducible refine (cI _ (HLj.out.on (below2 HBR.out (below_two _ _ _))) (HLk.out.on (below2 HBR.out (below_two _ _ _)))).mono ?_; rintro e w5 ⟨rfl, hb5⟩)
          go_ret
          exact ⟨by rw [HD.out]; rfl, below2 (below2 HBR.out (below_two _ _ _)) hb5⟩
      · obtain rfl : i = L := by omega
        have hnot : ¬ (i : Int) < (i : Int) := by omega
        have HE : Hid (samesB js ks = true) := by show _ = _; rw [HR.out, ← HJL.out, List.drop_length]; rfl
        clear HR
        go_wp2_with fail
        go_ret
        exact ⟨by rw [HE.out]; rfl, HBR.out⟩
  · rw [decide_eq_false hn, Bool.false_and]
    have hn' : ((js.length : Int) != (ks.length : Int)) = true := by simp; omega
    clear hl hk ih
    go_enter Tryd.func46, Tryd.ntmps46
    go_wp2_with fail
    go_ret
    exact ⟨rfl, Below.refl _ _⟩
end Go.Proofs.YtighocmdlifheaaDoor
