import Derived.Test.YtighocmdlifheaaGreatDoorM11
import Derived.Test.YtighocmdlifheaaGreatDoorM2
/-
  The owner's look at lists (kind N).
-/
namespace Go.Proofs.YtighocmdlifheaaGreatDoor
open Go.RowKit
set_option linter.unusedVariables false
set_option linter.unusedSimpArgs false
theorem infL53 : (Tryz.prog.info? 53).map (fun i => (i.zero, i.size, i.bytes)) = some (some (.slice none 0 0), 1, 24) := by kernel_rfl
/-- The cells as far as they are marked: the first i lists, and k things of list i. -/
def cmTN (C : Nat → Nat → Value) (i k : Nat) (j q : Nat) : Value := if q % 8 = 7 ∧ (j < i ∨ (j = i ∧ q / 8 < k)) then .int .i64 (spI j (q / 8)) else C j q
def mkTN (C : Nat → Nat → Value) (j q : Nat) : Value := if q % 8 = 7 then .int .i64 (spI j (q / 8)) else C j q
def nwTN (m : Int) : Array Value := #[.int .u8 0, .int .u8 0, .int .u8 0, .int .i64 0, .int .u8 0, .string ⟨#[]⟩, .slice none 0 0, .int .i64 m]
def apTN (C : Nat → Nat → Value) (n : Nat → Nat) (j q : Nat) : Value := if q < n j * 8 then mkTN C j q else (nwTN (bhI j (q / 8 - n j))).getD (q % 8) (.int .i64 0)
theorem apTN_in {C : Nat → Nat → Value} {n : Nat → Nat} {j q : Nat} (h : q < n j * 8) : apTN C n j q = mkTN C j q := if_pos h
theorem apTN_out {C : Nat → Nat → Value} {n : Nat → Nat} {j k : Nat} : apTN C n j ((n j + k) * 8 + 7) = .int .i64 (bhI j k) := by
  unfold apTN
  rw [if_neg (by omega), show ((n j + k) * 8 + 7) / 8 - n j = k by omega, show ((n j + k) * 8 + 7) % 8 = 7 by omega]
  rfl
theorem nwTN_at (m : Int) : ∀ j, j < 8 → (nwTN m).toList[j]? = some ((fun r => (nwTN m).getD r (.int .i64 0)) j)
  | 0, _ => rfl
  | 1, _ => rfl
  | 2, _ => rfl
  | 3, _ => rfl
  | 4, _ => rfl
  | 5, _ => rfl
  | 6, _ => rfl
  | 7, _ => rfl
  | _ + 8, h => absurd h (by omega)
theorem nwTN_one (m : Int) : ∀ u ∈ (nwTN m).toList, u.oneCell' = true := by
  intro u hu
  simp [nwTN] at hu
  rcases hu with rfl | rfl | rfl | rfl | rfl | rfl | rfl | rfl <;> rfl
theorem P1.startTN {w v : World} {g N : Nat} {V : Nat → Value} {n : Nat → Nat} {C : Nat → Nat → Value} (h : P1 55 8 w v g N V n C) : P1 55 8 w v g N V n (cmTN C 0 0) :=
  h.congr (fun j _ q _ => by unfold cmTN; rw [if_neg (by omega)])
theorem P1.nextTN {w v : World} {g N : Nat} {V : Nat → Value} {n : Nat → Nat} {C : Nat → Nat → Value} {i : Nat} (h : P1 55 8 w v g N V n (cmTN C i (n i))) : P1 55 8 w v g N V n (cmTN C (i + 1) 0) :=
  h.congr (fun j _ q hq => by
    unfold cmTN
    by_cases e : q % 8 = 7 ∧ (j < i ∨ (j = i ∧ q / 8 < n i))
    · rw [if_pos e, if_pos ⟨e.1, .inl (by omega)⟩]
    · rw [if_neg e]
      by_cases e2 : q % 8 = 7 ∧ (j < i + 1 ∨ (j = i + 1 ∧ q / 8 < 0))
      · exfalso
        apply e
        refine ⟨e2.1, ?_⟩
        by_cases e3 : j < i
        · exact .inl e3
        · have e4 : j = i := by omega
          subst e4
          exact .inr ⟨rfl, by omega⟩
      · rw [if_neg e2])
theorem P1.markTN {w v : World} {g N : Nat} {V : Nat → Value} {n : Nat → Nat} {C : Nat → Nat → Value} (ap : Aprt w g N V) {i k b c : Nat} (h : P1 55 8 w v g N V n (cmTN C i k)) (hi : i < N) (hV : V i = .slice (some ⟨b, 0, none⟩) (n i) c) :
    P1 55 8 w (v.setCell ⟨b, k * 8 + 7, none⟩ (.int .i64 (spI i k))) g N V n (cmTN C i (k + 1)) :=
  (h.put ap (k * 8 + 7) hi hV (.int .i64 (spI i k))).congr (fun j _ q _ => by
    unfold cmTN
    by_cases e : j = i ∧ q = k * 8 + 7
    · obtain ⟨rfl, rfl⟩ := e
      rw [if_pos ⟨rfl, rfl⟩, if_pos ⟨by omega, .inr ⟨rfl, by omega⟩⟩, show (k * 8 + 7) / 8 = k by omega]
    · rw [if_neg e]
      by_cases e' : q % 8 = 7 ∧ (j < i ∨ (j = i ∧ q / 8 < k))
      · rw [if_pos e', if_pos ⟨e'.1, e'.2.elim (fun h => .inl h) (fun h => .inr ⟨h.1, by omega⟩)⟩]
      · rw [if_neg e', if_neg (by omega)])
theorem P1.doneTN {w v : World} {g N : Nat} {V : Nat → Value} {n : Nat → Nat} {C : Nat → Nat → Value} (h : P1 55 8 w v g N V n (cmTN C N 0)) : P1 55 8 w v g N V n (mkTN C) :=
  h.congr (fun j hj q _ => by
    unfold cmTN mkTN
    by_cases e : q % 8 = 7
    · rw [if_pos ⟨e, .inl hj⟩, if_pos e]
    · rw [if_neg (fun h => e h.1), if_neg e])
theorem append_markTN {w v : World} {g N : Nat} {V : Nat → Value} {n : Nat → Nat} {C : Nat → Nat → Value} {i : Nat} {U : Nat → Value} {lv : Value} {k : Nat} {X : Value} {ops : Array Oper} {rest : List Oper} {o : Oper} {a : Act} {Q : Exit → Act → World → Prop} (hgd : o.guard = none) (d x : Operand)
    (ho : o.op = .call { callee := .builtin .append, args := #[d, x], argTypes := #[53, 53] }) (ap : Aprt w g N V) (hi : i < N) (h : P3 55 53 8 8 w v g N V n (mkTN C) (apTN C n) i U lv k X) (hs : a.eval d = X) (hx : a.eval x = .slice (some ⟨v.heap.size, 0, none⟩) 1 1) (hlen : n i + k ≤ 1000000000)
    (hK : ∀ X' v', P3 55 53 8 8 w v' g N V n (mkTN C) (apTN C n) i U lv (k + 1) X' → wpList Tryz.prog ops Q rest (a.put o.dst X') v') :
    wpList Tryz.prog ops Q (o :: rest) a (v.alloc (.cells (nwTN (bhI i k)) 55)) := by
  obtain ⟨m, em⟩ : ∃ m : Int, m = bhI i k := ⟨_, rfl⟩
  rw [← em]
  obtain ⟨i0, h0, hz0, hz1, hz2⟩ := info_parts infN
  have h' := h.call ap (below_new v (.cells (nwTN m) 55))
  obtain ⟨X', v', r1, r2, r3⟩ := run_app1X (P := Tryz.prog) (v.alloc (.cells (nwTN m) 55)) 53 o.type 55 i0 _ 8 72 Tryz.underlying53 h0 hz0 hz1 hz2 rfl (by decide) X (n i + k) _ h'.xrow ⟨v.heap.size, 0, none⟩ (nwTN m).toList rfl (World.news_of_block (heap_new v _)) (nwTN_one m) (by unfold maxLen; omega) (by omega)
  refine wpList_plain hgd fun K hK' => ?_
  unfold Oper.wp execOp
  simp only [ho, resolve, invoke, builtin, Sem.run_bind, Sem.run_pure, Result.andThen_ok, List.map_toArray, List.map_cons, List.map_nil, hs, hx, r1]
  refine hK' _ _ (hK X' v' (h'.app (by decide) ap hi (fun q hq => apTN_in hq) ?_ r3))
  have hr := Row.snoc (x := fun r => (nwTN m).getD r (.int .i64 0)) r2 rfl (nwTN_at m)
  refine (show RowX v' 55 8 X' (n i + (k + 1)) _ from .inl hr).congr fun j hj => ?_
  by_cases e : j < (n i + k) * 8
  · simp only [e, if_true]
  · simp only [e, if_false]
    unfold apTN
    rw [if_neg (by omega), show j / 8 - n i = k by omega, show j % 8 = j - (n i + k) * 8 by omega, em]
theorem append_longTN {w v : World} {g N : Nat} {V : Nat → Value} {n : Nat → Nat} {M A : Nat → Nat → Value} {i : Nat} {U : Nat → Value} {lv : Value} {X : Value} {ops : Array Oper} {rest : List Oper} {o : Oper} {a : Act} {Q : Exit → Act → World → Prop} (hgd : o.guard = none) (d x : Operand)
    (ho : o.op = .call { callee := .builtin .append, args := #[d, x], argTypes := #[35, 35] }) (ap : Aprt w g N V) (h : P3 55 53 8 8 w v g N V n M A i U lv 8 X) (hX1 : X.oneCell' = true) (hs : a.eval d = lv) (hx : a.eval x = .slice (some ⟨v.heap.size, 0, none⟩) 1 1) (hlen : i ≤ 3000000)
    (hK : ∀ lv' v', P2 55 53 8 8 w v' g N V n M A (i + 1) (fun j => if j = i then X else U j) lv' → wpList Tryz.prog ops Q rest (a.put o.dst lv') v') :
    wpList Tryz.prog ops Q (o :: rest) a (v.alloc (.cells #[X] 53)) := by
  obtain ⟨i0, h0, hz0, hz1, hz2⟩ := info_parts infL53
  have h' := h.call ap (below_new v (.cells #[X] 53))
  refine wpList_append_own_at _ hgd d x 35 ho 0 53 i0 _ 1 24 Tryz.underlying35 h0 hz0 hz1 hz2 rfl (by decide) lv i _ hs h'.long ⟨v.heap.size, 0, none⟩ 1 1 [X] hx rfl (World.news_of_block (heap_new v _)) (by intro u hu; simp at hu; rw [hu]; exact hX1) (by unfold maxLen; omega) (by omega) (Nat.zero_le _) ?_
  intro lv' v' r1 r2 _ r4
  refine hK lv' v' (h'.fin (by decide) ap ?_ r2 r4)
  have hr := Row.snoc (x := fun _ => X) r1 rfl (fun j hj => by obtain rfl : j = 0 := by omega
                                                               rfl)
  refine hr.congr fun j hj => ?_
  by_cases e : j < i * 1
  · rw [if_pos e, if_neg (show ¬ j = i by omega)]
  · rw [if_neg e, if_pos (show j = i by omega)]
set_option maxRecDepth 100000 in
set_option maxHeartbeats 8000000 in
theorem ownTN_any (w : World) (g N c : Nat) (V : Nat → Value) (n : Nat → Nat) (C : Nat → Nat → Value) (hC : ∀ j k, j < N → k < n j → ∃ p, C j (k * 8 + 7) = .int .i64 p) (hN : N ≤ 3000000) (hn : ∀ j, j < N → n j ≤ 100000000) (ap : Aprt w g N V) (h : P1 55 8 w w g N V n C) :
    Calls Tryz.prog 59 #[.slice (some ⟨g, 0, none⟩) N c] w fun e w' => e = .returned (.bool true) ∧ Mv w w' (bks N V) := by
  have AP := ap.hid
  have HFm : Hid (∀ j, j < N → ∃ ao c, V j = .slice ao (n j) c ∧ (0 < n j → ∃ b, ao = some ⟨b, 0, none⟩)) := fun j hj => by
    obtain ⟨ao, c, e, h1, _⟩ := (h.row j hj).form
    exact ⟨ao, c, e, h1⟩
  have H1 := h.startTN.hid
  have HN : Hid (∀ j, j < N → n j ≤ 100000000) := hn
  have HC : Hid (∀ i k, ∃ p, i < N → k < n i → cmTN C i k i (k * 8 + 7) = .int .i64 p) := fun i k => by
    by_cases hh : i < N ∧ k < n i
    · obtain ⟨p, hp⟩ := hC i k hh.1 hh.2
      exact ⟨p, fun _ _ => by unfold cmTN; rw [if_neg (by omega), hp]⟩
    · exact ⟨0, fun a b => absurd ⟨a, b⟩ hh⟩
  clear ap h hn hC
  go_enter Tryz.func59, Tryz.ntmps59
  go_wp2
  go_loopw [4] (fun x wr => ∃ i : Nat, i ≤ N ∧ x = .int .i64 i ∧ P1 55 8 w wr g N V n (cmTN C i 0)) (fun x _ => N - (intOf x).toNat)
  case atStart => exact ⟨0, by omega, rfl, H1.out⟩
  case round =>
    obtain ⟨i, hiN, rfl, hp⟩ := hrel
    clear H1
    by_cases hi : i < N
    · have hi' : (i : Int) < (N : Int) := by omega
      have hni := HN.out i hi
      obtain ⟨ao, cc, eV, hV0, _⟩ := (hp.row i hi).form
      have HP := hp.hid
      have HV : Hid (V i = .slice ao (n i) cc) := eV
      have H0 : Hid (0 < n i → ∃ b, ao = some ⟨b, 0, none⟩) := hV0
      obtain ⟨m, em⟩ : ∃ m, n i = m := ⟨_, rfl⟩
      have hcell := hp.cell i hi
      rw [eV, em] at hcell
      rw [em] at hni H0
      have HM : Hid (n i = m) := em
      clear hp eV hV0 em
      go_wp2
      go_loopw [5] (fun x wr2 => ∃ k : Nat, k ≤ m ∧ x = .int .i64 k ∧ P1 55 8 w wr2 g N V n (cmTN C i k)) (fun x _ => m - (intOf x).toNat)
      case atStart => exact ⟨0, by omega, rfl, HP.out⟩
      case round =>
        obtain ⟨k, hkm, rfl, hq⟩ := hrel
        clear hcell
        have hcell := hq.cell i hi
        rw [HV.out, HM.out] at hcell
        have HQ := hq.hid
        by_cases hk : k < m
        · have hk' : (k : Int) < (m : Int) := by omega
          obtain ⟨b, rfl⟩ := H0.out (by omega)
          have hr := hq.row i hi
          rw [HV.out, HM.out] at hr
          have z4 := hr.cell (j := k * 8 + 7) (by omega)
          have f4 := hr.frozen (k * 8 + 7)
          obtain ⟨p, hp⟩ := HC.out i k
          rw [hp hi (by rw [HM.out]; exact hk)] at z4
          have cS := spot_sp i k (by omega) (by omega)
          obtain ⟨sp, esp⟩ : ∃ sp, spI i k = sp := ⟨_, rfl⟩
          have HSP : Hid (spI i k = sp) := esp
          rw [esp] at cS
          clear hr hq hp esp
          go_wp2_with fail
          go_region_with (go_at_call 98; refine (cS _).mono ?_; rintro _ vv ⟨rfl, q⟩; obtain rfl := q.symm)
          all_goals go_wp2
          all_goals exact ⟨⟨k + 1, by omega, by go_num, (by have := (HQ.out.markTN AP.out hi (k := k) (by rw [HV.out])).drew; rwa [HSP.out] at this)⟩, by simp only [intOf]; omega⟩
        · obtain rfl : k = m := by omega
          clear hq
          go_wp2
          refine ⟨⟨i + 1, by omega, by go_num, P1.nextTN (by rw [HM.out]; exact HQ.out)⟩, by simp only [intOf]; omega⟩
    · obtain rfl : N = i := by omega
      have H2 := (hp.doneTN.done (le := 53) (K := 8) (A := apTN C n)).hid
      clear hp hiN hi HC
      go_wp2
      go_loopw [3, 6] (fun lv x wr3 => ∃ (i : Nat) (U : Nat → Value), i ≤ N ∧ x = .int .i64 i ∧ P2 55 53 8 8 w wr3 g N V n (mkTN C) (apTN C n) i U lv) (fun _ x _ => N - (intOf x).toNat)
      case atStart => exact ⟨0, _, by omega, rfl, H2.out⟩
      case round =>
        obtain ⟨i, U, hiN, rfl, hp⟩ := hrel
        clear H2
        by_cases hi : i < N
        · have hi' : (i : Int) < (N : Int) := by omega
          have hni := HN.out i hi
          obtain ⟨ao, cc, eV, _, _⟩ := (hp.row i (Nat.le_refl _) hi).form
          have hcell := hp.cell i hi
          rw [eV] at hcell
          have hb := hp.begin AP.out hi (fun q hq => (apTN_in hq).symm)
          rw [eV] at hb
          have HP := hb.hid
          clear hp eV hb
          go_wp2
          go_loopw [7, 8] (fun X x wr4 => ∃ k : Nat, k ≤ 8 ∧ x = .int .i64 k ∧ P3 55 53 8 8 w wr4 g N V n (mkTN C) (apTN C n) i U u3 k X) (fun _ x _ => 8 - (intOf x).toNat)
          case atStart => exact ⟨0, by omega, rfl, HP.out⟩
          case round =>
            obtain ⟨k, hk8, rfl, hq⟩ := hrel
            have HQ := hq.hid
            clear hq hcell HP
            by_cases hk : k < 8
            · have hk' : (k : Int) < 8 := by omega
              have cS := behind_bh i k (by omega) (by omega)
              go_wp2_with (first | (go_at_call 99; refine (cS _).mono ?_; rintro _ vv ⟨rfl, q⟩; obtain rfl := q.symm) | (at_builtin; refine append_markTN rfl (.tmp 52) (.tmp 57) rfl AP.out hi HQ.out rfl rfl (by omega) ?_; intro X' v' hr'; have HR := hr'.hid; clear hr'))
              exact ⟨⟨k + 1, by omega, by go_num, HR.out⟩, by simp only [intOf]; omega⟩
            · obtain rfl : k = 8 := by omega
              obtain ⟨ax, cx, eX⟩ := HQ.out.form
              subst eX
              go_wp2_with (at_builtin; refine append_longTN rfl (.tmp 59) (.tmp 61) rfl AP.out HQ.out rfl rfl rfl (by omega) ?_; intro lv' v' hr'; have HR := hr'.hid; clear hr')
              exact ⟨⟨i + 1, _, by omega, by go_num, HR.out⟩, by simp only [intOf]; omega⟩
        · obtain rfl : N = i := by omega
          have H3 := hp.hid
          obtain ⟨W, eW⟩ : ∃ W, W = wr := ⟨_, rfl⟩
          rw [← eW] at H3
          have HMv : Hid (Mv w W (bks N V)) := H3.out.mv
          clear hp hiN hi
          go_wp2
          rw [← eW]
          clear eW
          go_loopw [9] (fun x wz => ∃ i q : Nat, i ≤ N ∧ x = .int .i64 i ∧ wz = W.drewN q) (fun x _ => N - (intOf x).toNat)
          case atStart => exact ⟨0, 0, by omega, rfl, rfl⟩
          case round =>
            obtain ⟨i, nq0, hiN, rfl, rfl⟩ := hrel
            by_cases hi : i < N
            · have hi' : (i : Int) < (N : Int) := by omega
              have hni := HN.out i hi
              obtain ⟨gl, lc, bu, cu, e1, e2, hu, hf⟩ := H3.out.look (by decide) (by decide) hi
              have HF : Hid (∀ q, q < (n i + 8) * 8 → W.cell? ⟨bu, q, none⟩ = some (apTN C n i q)) := hf
              have hv := H3.out.cell i hi
              have HR : Hid (RdO W 8 (V i) (n i) (mkTN C i)) := H3.out.rd i hi
              obtain ⟨ao, cc, eV, h0⟩ := HFm.out i hi
              have H0 : Hid (0 < n i → ∃ b, ao = some ⟨b, 0, none⟩) := h0
              have HV : Hid (V i = .slice ao (n i) cc) := eV
              rw [eV] at hv
              obtain ⟨m, em⟩ : ∃ m, n i = m := ⟨_, rfl⟩
              rw [em] at hv hni hu
              have HM : Hid (n i = m) := em
              obtain ⟨m8, em8⟩ : ∃ m8, m + 8 = m8 := ⟨_, rfl⟩
              rw [em8] at hu
              have HM8 : Hid (m + 8 = m8) := em8
              subst e1
              clear eV em hf h0 e2 em8
              go_wp2
              go_loopw [11] (fun x wz => ∃ k q : Nat, k ≤ m ∧ x = .int .i64 k ∧ wz = W.drewN q) (fun x _ => m - (intOf x).toNat)
              case atStart => exact ⟨0, nq0, by omega, rfl, rfl⟩
              case round =>
                obtain ⟨k, nq1, hkm, rfl, rfl⟩ := hrel
                by_cases hk : k < m
                · have hk' : (k : Int) < (m : Int) := by omega
                  obtain ⟨b, c', e3, hx⟩ := HR.out (k * 8 + 7) (by rw [HM.out]; omega)
                  rw [HV.out] at e3
                  simp at e3
                  obtain ⟨rfl, rfl⟩ := e3
                  have hy := HF.out (k * 8 + 7) (by rw [HM.out]; omega)
                  rw [apTN_in (by rw [HM.out]; omega)] at hy
                  have em : mkTN C i (k * 8 + 7) = .int .i64 (spI i k) := by unfold mkTN; rw [if_pos (by omega), show (k * 8 + 7) / 8 = k by omega]
                  rw [em] at hx hy
                  have cS := spot_sp i k (by omega) (by omega)
                  obtain ⟨sp, esp⟩ : ∃ sp, spI i k = sp := ⟨_, rfl⟩
                  rw [esp] at cS hx hy
                  clear em esp
                  have k8' : (k : Int) < (m8 : Int) := by have := HM8.out; omega
                  obtain ⟨Y, eY⟩ : ∃ Y, W.drewN nq1 = Y := ⟨_, rfl⟩
                  have hvY : Y.cell? ⟨g, i, none⟩ = some (.slice (some ⟨b, 0, none⟩) m cc) := by rw [← eY]; exact hv
                  have huY : Y.cell? ⟨gl, i, none⟩ = some (.slice (some ⟨bu, 0, none⟩) m8 cu) := by rw [← eY]; exact hu
                  have hxY : Y.cell? ⟨b, k * 8 + 7, none⟩ = some (.int .i64 sp) := by rw [← eY]; exact hx
                  have hyY : Y.cell? ⟨bu, k * 8 + 7, none⟩ = some (.int .i64 sp) := by rw [← eY]; exact hy
                  have EY : Hid (W.drewN nq1 = Y) := eY
                  clear hv hu hx hy
                  go_wp2_with fail
                  clear eY
                  go_quiet ((go_at_call 98; refine Calls.quiet_of_same (cS _)))
                  go_wp2_with fail
                  exact ⟨⟨k + 1, nq1 + nq, by omega, by go_num, by rw [← EY.out]; exact drewN_addO W nq1 nq⟩, by simp only [intOf]; omega⟩
                · obtain rfl : m = k := by omega
                  clear hk hkm
                  go_wp2
                  go_loopw [12] (fun x wz => ∃ k q : Nat, k ≤ 8 ∧ x = .int .i64 k ∧ wz = W.drewN q) (fun x _ => 8 - (intOf x).toNat)
                  case atStart => exact ⟨0, nq1, by omega, rfl, rfl⟩
                  case round =>
                    obtain ⟨k, nq2, hk8, rfl, rfl⟩ := hrel
                    by_cases hk : k < 8
                    · have hk' : (k : Int) < 8 := by omega
                      have hy := HF.out ((n i + k) * 8 + 7) (by omega)
                      rw [apTN_out, HM.out] at hy
                      have cS := behind_bh i k (by omega) (by omega)
                      obtain ⟨sp, esp⟩ : ∃ sp, bhI i k = sp := ⟨_, rfl⟩
                      rw [esp] at cS hy
                      obtain ⟨q, eq⟩ : ∃ q, m + k = q := ⟨_, rfl⟩
                      rw [eq] at hy
                      have eq' : (m : Int) + (k : Int) = (q : Int) := by omega
                      have hq' : (q : Int) < (m8 : Int) := by have := HM8.out; omega
                      have hqb : (q : Int) ≤ 9223372036854775807 := by have := HM8.out; omega
                      obtain ⟨Y, eY⟩ : ∃ Y, W.drewN nq2 = Y := ⟨_, rfl⟩
                      have huY : Y.cell? ⟨gl, i, none⟩ = some (.slice (some ⟨bu, 0, none⟩) m8 cu) := by rw [← eY]; exact hu
                      have hyY : Y.cell? ⟨bu, q * 8 + 7, none⟩ = some (.int .i64 sp) := by rw [← eY]; exact hy
                      have EY : Hid (W.drewN nq2 = Y) := eY
                      clear esp eq hu hy hv
                      go_wp2_with fail
                      clear eY
                      go_quiet ((go_at_call 99; refine Calls.quiet_of_same (cS _)))
                      go_wp2_with fail
                      exact ⟨⟨k + 1, nq2 + nq, by omega, by go_num, by rw [← EY.out]; exact drewN_addO W nq2 nq⟩, by simp only [intOf]; omega⟩
                    · obtain rfl : k = 8 := by omega
                      go_wp2
                      exact ⟨⟨i + 1, _, by omega, by go_num, rfl⟩, by simp only [intOf]; omega⟩
            · go_wp2
              go_ret
              exact ⟨rfl, below_drewMv HMv.out _⟩
end Go.Proofs.YtighocmdlifheaaGreatDoor

/-
  The owner's look at no lists.
-/
namespace Go.Proofs.YtighocmdlifheaaGreatDoor
open Go.RowKit
set_option maxRecDepth 100000 in
set_option maxHeartbeats 2000000 in
theorem nil58 (w : World) : Calls Tryz.prog 58 #[.slice none 0 0] w fun e w' => e = .returned (.bool true) ∧ w' = w := by
  go_enter Tryz.func58, Tryz.ntmps58
  go_wp2
  refine wp_loop_rounds 1 ?_
  rw [rounds_succ]
  go_wp2
  refine wp_loop_rounds 1 ?_
  rw [rounds_succ]
  go_wp2
  refine wp_loop_rounds 1 ?_
  rw [rounds_succ]
  go_wp2
  go_ret
  exact ⟨rfl, rfl⟩
set_option maxRecDepth 100000 in
set_option maxHeartbeats 2000000 in
theorem nil59 (w : World) : Calls Tryz.prog 59 #[.slice none 0 0] w fun e w' => e = .returned (.bool true) ∧ w' = w := by
  go_enter Tryz.func59, Tryz.ntmps59
  go_wp2
  refine wp_loop_rounds 1 ?_
  rw [rounds_succ]
  go_wp2
  refine wp_loop_rounds 1 ?_
  rw [rounds_succ]
  go_wp2
  refine wp_loop_rounds 1 ?_
  rw [rounds_succ]
  go_wp2
  go_ret
  exact ⟨rfl, rfl⟩
set_option maxRecDepth 100000 in
set_option maxHeartbeats 2000000 in
theorem nil60 (w : World) : Calls Tryz.prog 60 #[.slice none 0 0] w fun e w' => e = .returned (.bool true) ∧ w' = w := by
  go_enter Tryz.func60, Tryz.ntmps60
  go_wp2
  refine wp_loop_rounds 1 ?_
  rw [rounds_succ]
  go_wp2
  refine wp_loop_rounds 1 ?_
  rw [rounds_succ]
  go_wp2
  refine wp_loop_rounds 1 ?_
  rw [rounds_succ]
  go_wp2
  go_ret
  exact ⟨rfl, rfl⟩
set_option maxRecDepth 100000 in
set_option maxHeartbeats 2000000 in
theorem nil61 (w : World) : Calls Tryz.prog 61 #[.slice none 0 0] w fun e w' => e = .returned (.bool true) ∧ w' = w := by
  go_enter Tryz.func61, Tryz.ntmps61
  go_wp2
  refine wp_loop_rounds 1 ?_
  rw [rounds_succ]
  go_wp2
  refine wp_loop_rounds 1 ?_
  rw [rounds_succ]
  go_wp2
  refine wp_loop_rounds 1 ?_
  rw [rounds_succ]
  go_wp2
  go_ret
  exact ⟨rfl, rfl⟩
set_option maxRecDepth 100000 in
set_option maxHeartbeats 2000000 in
theorem nil62 (w : World) : Calls Tryz.prog 62 #[.slice none 0 0] w fun e w' => e = .returned (.bool true) ∧ w' = w := by
  go_enter Tryz.func62, Tryz.ntmps62
  go_wp2
  refine wp_loop_rounds 1 ?_
  rw [rounds_succ]
  go_wp2
  refine wp_loop_rounds 1 ?_
  rw [rounds_succ]
  go_wp2
  refine wp_loop_rounds 1 ?_
  rw [rounds_succ]
  go_wp2
  go_ret
  exact ⟨rfl, rfl⟩
set_option maxRecDepth 100000 in
set_option maxHeartbeats 2000000 in
theorem nil63 (w : World) : Calls Tryz.prog 63 #[.slice none 0 0] w fun e w' => e = .returned (.bool true) ∧ w' = w := by
  go_enter Tryz.func63, Tryz.ntmps63
  go_wp2
  refine wp_loop_rounds 1 ?_
  rw [rounds_succ]
  go_wp2
  refine wp_loop_rounds 1 ?_
  rw [rounds_succ]
  go_wp2
  refine wp_loop_rounds 1 ?_
  rw [rounds_succ]
  go_wp2
  go_ret
  exact ⟨rfl, rfl⟩
set_option maxRecDepth 100000 in
set_option maxHeartbeats 2000000 in
theorem nil64 (w : World) : Calls Tryz.prog 64 #[.slice none 0 0] w fun e w' => e = .returned (.bool true) ∧ w' = w := by
  go_enter Tryz.func64, Tryz.ntmps64
  go_wp2
  refine wp_loop_rounds 1 ?_
  rw [rounds_succ]
  go_wp2
  refine wp_loop_rounds 1 ?_
  rw [rounds_succ]
  go_wp2
  refine wp_loop_rounds 1 ?_
  rw [rounds_succ]
  go_wp2
  go_ret
  exact ⟨rfl, rfl⟩
set_option maxRecDepth 100000 in
set_option maxHeartbeats 2000000 in
theorem nil65 (w : World) : Calls Tryz.prog 65 #[.slice none 0 0] w fun e w' => e = .returned (.bool true) ∧ w' = w := by
  go_enter Tryz.func65, Tryz.ntmps65
  go_wp2
  refine wp_loop_rounds 1 ?_
  rw [rounds_succ]
  go_wp2
  refine wp_loop_rounds 1 ?_
  rw [rounds_succ]
  go_wp2
  refine wp_loop_rounds 1 ?_
  rw [rounds_succ]
  go_wp2
  go_ret
  exact ⟨rfl, rfl⟩
set_option maxRecDepth 100000 in
set_option maxHeartbeats 2000000 in
theorem nil66 (w : World) : Calls Tryz.prog 66 #[.slice none 0 0] w fun e w' => e = .returned (.bool true) ∧ w' = w := by
  go_enter Tryz.func66, Tryz.ntmps66
  go_wp2
  refine wp_loop_rounds 1 ?_
  rw [rounds_succ]
  go_wp2
  refine wp_loop_rounds 1 ?_
  rw [rounds_succ]
  go_wp2
  refine wp_loop_rounds 1 ?_
  rw [rounds_succ]
  go_wp2
  go_ret
  exact ⟨rfl, rfl⟩
set_option maxRecDepth 100000 in
set_option maxHeartbeats 2000000 in
theorem nil67 (w : World) : Calls Tryz.prog 67 #[.slice none 0 0] w fun e w' => e = .returned (.bool true) ∧ w' = w := by
  go_enter Tryz.func67, Tryz.ntmps67
  go_wp2
  refine wp_loop_rounds 1 ?_
  rw [rounds_succ]
  go_wp2
  refine wp_loop_rounds 1 ?_
  rw [rounds_succ]
  go_wp2
  refine wp_loop_rounds 1 ?_
  rw [rounds_succ]
  go_wp2
  go_ret
  exact ⟨rfl, rfl⟩
set_option maxRecDepth 100000 in
set_option maxHeartbeats 2000000 in
theorem nil68 (w : World) : Calls Tryz.prog 68 #[.slice none 0 0] w fun e w' => e = .returned (.bool true) ∧ w' = w := by
  go_enter Tryz.func68, Tryz.ntmps68
  go_wp2
  refine wp_loop_rounds 1 ?_
  rw [rounds_succ]
  go_wp2
  refine wp_loop_rounds 1 ?_
  rw [rounds_succ]
  go_wp2
  refine wp_loop_rounds 1 ?_
  rw [rounds_succ]
  go_wp2
  go_ret
  exact ⟨rfl, rfl⟩
set_option maxRecDepth 100000 in
set_option maxHeartbeats 2000000 in
theorem nil69 (w : World) : Calls Tryz.prog 69 #[.slice none 0 0] w fun e w' => e = .returned (.bool true) ∧ w' = w := by
  go_enter Tryz.func69, Tryz.ntmps69
  go_wp2
  refine wp_loop_rounds 1 ?_
  rw [rounds_succ]
  go_wp2
  refine wp_loop_rounds 1 ?_
  rw [rounds_succ]
  go_wp2
  refine wp_loop_rounds 1 ?_
  rw [rounds_succ]
  go_wp2
  go_ret
  exact ⟨rfl, rfl⟩
end Go.Proofs.YtighocmdlifheaaGreatDoor

/-
  Lists of nodes in a book; its owner looks at all of them.
-/
namespace Go.Proofs.YtighocmdlifheaaGreatDoor
open Go.RowKit
set_option linter.unusedVariables false
set_option linter.unusedSimpArgs false
/-- Lists in a book: each in memory of its own. -/
structure Lk (e le : TypeId) (s : Nat) (w : World) (lv : Value) (N : Nat) (V : Nat → Value) (n : Nat → Nat) (C : Nat → Nat → Value) : Prop where
  row : ∀ j, j < N → RowX w e s (V j) (n j) (C j)
  long : Row w le 1 lv N V
  dis : ∀ j j', j < N → j' < N → j ≠ j' → ∀ b, (V j).ownBlock = some b → (V j').ownBlock ≠ some b
section
variable {e le : TypeId} {s : Nat} {w v : World} {lv : Value} {N : Nat} {V : Nat → Value} {n : Nat → Nat} {C : Nat → Nat → Value} {F : Nat → Prop}
theorem Lk.hid (h : Lk e le s w lv N V n C) : Hid (Lk e le s w lv N V n C) := h
theorem Lk.mv (h : Lk e le s w lv N V n C) (m : Mv w v F) (hF : ∀ b, F b → ∃ cs t fz, w.heap[b]? = some (.cells cs t fz) ∧ t ≠ e ∧ t ≠ le) : Lk e le s v lv N V n C := by
  have keep : ∀ {e1 : TypeId} {s1 m1 : Nat} {x : Value} {f : Nat → Value}, Row w e1 s1 x m1 f → (e1 = e ∨ e1 = le) → Row v e1 s1 x m1 f := by
    intro e1 s1 m1 x f hr he
    refine m.row hr (fun b hb hf => ?_)
    obtain ⟨cs, t, fz, h1, h2, h3⟩ := hF b hf
    obtain ⟨c', f', h4⟩ := hr.kind b hb
    rw [h1] at h4
    simp at h4
    rcases he with he | he
    · exact h2 (h4.2.1.trans he)
    · exact h3 (h4.2.1.trans he)
  have keepX : ∀ {e1 : TypeId} {s1 m1 : Nat} {x : Value} {f : Nat → Value}, RowX w e1 s1 x m1 f → (e1 = e ∨ e1 = le) → RowX v e1 s1 x m1 f := by
    intro e1 s1 m1 x f hr he
    refine m.rowX hr (fun b hb hf => ?_)
    obtain ⟨cs, t, fz, h1, h2, h3⟩ := hF b hf
    obtain ⟨c', f', h4⟩ := hr.kind b hb
    rw [h1] at h4
    simp at h4
    rcases he with he | he
    · exact h2 (h4.2.1.trans he)
    · exact h3 (h4.2.1.trans he)
  exact ⟨fun j hj => keepX (h.row j hj) (.inl rfl), keep h.long (.inr rfl), h.dis⟩
theorem Lk.kd (h : Lk e le s w lv N V n C) {b : Nat} (hb : bks N V b) : ∃ cs fz, w.heap[b]? = some (.cells cs e fz) := by
  obtain ⟨j, hj, e1⟩ := hb
  exact (h.row j hj).kind b e1
theorem Lk.own {g c : Nat} (hel : e ≠ le) (h : Lk e le s w (.slice (some ⟨g, 0, none⟩) N c) N V n C) : Aprt w g N V ∧ P1 e s w w g N V n C := by
  refine ⟨⟨h.dis, fun j hj hb => (h.row j hj).apart h.long hel g hb rfl, fun j hj b hb => (h.row j hj).lt b hb, h.long.lt g rfl⟩, ⟨h.row, fun j hj => h.long.cell (by omega), Mv.refl _ _⟩⟩
theorem Lk.way (h : Lk e le s w lv N V n C) : lv = .slice none 0 0 ∨ ∃ g c, lv = .slice (some ⟨g, 0, none⟩) N c := by
  rcases h.long.2 with ⟨h1, _⟩ | ⟨g, cap, cur, h1, _⟩
  · exact .inl h1
  · exact .inr ⟨g, cap, h1⟩
end
theorem lookN (w : World) (lv : Value) (N : Nat) (V : Nat → Value) (n : Nat → Nat) (C : Nat → Nat → Value) (hC : ∀ j k, j < N → k < n j → ∃ p, C j (k * 8 + 7) = .int .i64 p) (hN : N ≤ 3000000) (hn : ∀ j, j < N → n j ≤ 100000000) (h : Lk 55 53 8 w lv N V n C) :
    Calls Tryz.prog 59 #[lv] w fun e w' => e = .returned (.bool true) ∧ Mv w w' (bks N V) := by
  rcases h.way with rfl | ⟨g, c, rfl⟩
  · refine (nil59 w).mono ?_
    rintro e w' ⟨h1, rfl⟩
    exact ⟨h1, Mv.refl _ _⟩
  · obtain ⟨ap, h1⟩ := h.own (by decide)
    exact ownTN_any w g N c V n C hC hN hn ap h1
def trN (lv : Value) : Array Value := #[.slice none 0 0, lv, .slice none 0 0, .slice none 0 0, .slice none 0 0, .slice none 0 0, .slice none 0 0, .slice none 0 0, .slice none 0 0, .slice none 0 0, .slice none 0 0, .slice none 0 0]
theorem blk_keep {w v : World} {F : Nat → Prop} (m : Mv w v F) {bk : Nat} {cs : Array Value} {t : TypeId} {fr : Nat × Nat} (h : w.heap[bk]? = some (.cells cs t fr)) (hF : ∀ b, F b → ∃ cs' t' fz, w.heap[b]? = some (.cells cs' t' fz) ∧ t' ≠ t) : v.heap[bk]? = some (.cells cs t fr) := by
  refine (m.block bk (Array.getElem?_eq_some_iff.1 h).1 (fun e => ?_)).trans h
  obtain ⟨cs', t', fz, h1, h2⟩ := hF bk e
  rw [h] at h1
  simp at h1
  exact h2 h1.2.1.symm
set_option maxRecDepth 100000 in
set_option maxHeartbeats 4000000 in
theorem treesOwn_any (w : World) (bk : Nat) (lv : Value) (N : Nat) (V : Nat → Value) (n : Nat → Nat) (C : Nat → Nat → Value) (hB : w.heap[bk]? = some (.cells (trN lv) 47 (0, 0))) (hL : Lk 55 53 8 w lv N V n C) (hC : ∀ j k, j < N → k < n j → ∃ p, C j (k * 8 + 7) = .int .i64 p) (hN : N ≤ 3000000) (hn : ∀ j, j < N → n j ≤ 100000000) :
    Calls Tryz.prog 16 #[.pointer (some ⟨bk, 0, none⟩)] w fun e w' => e = .returned (.bool true) ∧ Mv w w' (bks N V) := by
  obtain ⟨a, p, el⟩ : ∃ a p, lv = .slice a N p := by
    obtain ⟨ao, c, e, _, _⟩ := hL.long.form
    exact ⟨ao, c, e⟩
  subst el
  have HL : Hid (Lk 55 53 8 w (.slice a N p) N V n C) := hL
  have HB : Hid (w.heap[bk]? = some (.cells (trN (.slice a N p)) 47 (0, 0))) := hB
  have cN := lookN w (.slice a N p) N V n C hC hN hn hL
  have p0 : w.cell? ⟨bk, 0, none⟩ = some (.slice none 0 0) := cell_of hB 0
  have p1 : w.cell? ⟨bk, 1, none⟩ = some (.slice a N p) := cell_of hB 1
  have p2 : w.cell? ⟨bk, 2, none⟩ = some (.slice none 0 0) := cell_of hB 2
  have p3 : w.cell? ⟨bk, 3, none⟩ = some (.slice none 0 0) := cell_of hB 3
  have p4 : w.cell? ⟨bk, 4, none⟩ = some (.slice none 0 0) := cell_of hB 4
  have p5 : w.cell? ⟨bk, 5, none⟩ = some (.slice none 0 0) := cell_of hB 5
  have p6 : w.cell? ⟨bk, 6, none⟩ = some (.slice none 0 0) := cell_of hB 6
  have p7 : w.cell? ⟨bk, 7, none⟩ = some (.slice none 0 0) := cell_of hB 7
  have p8 : w.cell? ⟨bk, 8, none⟩ = some (.slice none 0 0) := cell_of hB 8
  have p9 : w.cell? ⟨bk, 9, none⟩ = some (.slice none 0 0) := cell_of hB 9
  have p10 : w.cell? ⟨bk, 10, none⟩ = some (.slice none 0 0) := cell_of hB 10
  have p11 : w.cell? ⟨bk, 11, none⟩ = some (.slice none 0 0) := cell_of hB 11
  clear hB hL hC hN hn
  go_enter Tryz.func16, Tryz.ntmps16
  go_wp2_with fail
  refine (nil58 _).mono ?_
  rintro _ v' ⟨rfl, e⟩
  obtain rfl := e.symm
  go_wp2_with fail
  refine cN.mono ?_
  rintro _ v1 ⟨rfl, m1⟩
  have M1 : Hid (Mv w v1 (bks N V)) := m1
  have HB1 : v1.heap[bk]? = some (.cells (trN (.slice a N p)) 47 (0, 0)) := blk_keep m1 HB.out (fun b e => by obtain ⟨cs, fz, e1⟩ := (HL.out).kd e; exact ⟨cs, _, fz, e1, by decide⟩)
  clear p0 p1 p2 p3 p4 p5 p6 p7 p8 p9 p10 p11 cN m1
  have p0 : v1.cell? ⟨bk, 0, none⟩ = some (.slice none 0 0) := cell_of HB1 0
  have p1 : v1.cell? ⟨bk, 1, none⟩ = some (.slice a N p) := cell_of HB1 1
  have p2 : v1.cell? ⟨bk, 2, none⟩ = some (.slice none 0 0) := cell_of HB1 2
  have p3 : v1.cell? ⟨bk, 3, none⟩ = some (.slice none 0 0) := cell_of HB1 3
  have p4 : v1.cell? ⟨bk, 4, none⟩ = some (.slice none 0 0) := cell_of HB1 4
  have p5 : v1.cell? ⟨bk, 5, none⟩ = some (.slice none 0 0) := cell_of HB1 5
  have p6 : v1.cell? ⟨bk, 6, none⟩ = some (.slice none 0 0) := cell_of HB1 6
  have p7 : v1.cell? ⟨bk, 7, none⟩ = some (.slice none 0 0) := cell_of HB1 7
  have p8 : v1.cell? ⟨bk, 8, none⟩ = some (.slice none 0 0) := cell_of HB1 8
  have p9 : v1.cell? ⟨bk, 9, none⟩ = some (.slice none 0 0) := cell_of HB1 9
  have p10 : v1.cell? ⟨bk, 10, none⟩ = some (.slice none 0 0) := cell_of HB1 10
  have p11 : v1.cell? ⟨bk, 11, none⟩ = some (.slice none 0 0) := cell_of HB1 11
  clear HB1
  go_wp2_with fail
  refine (nil60 _).mono ?_
  rintro _ v' ⟨rfl, e⟩
  obtain rfl := e.symm
  go_wp2_with fail
  refine (nil61 _).mono ?_
  rintro _ v' ⟨rfl, e⟩
  obtain rfl := e.symm
  go_wp2_with fail
  refine (nil62 _).mono ?_
  rintro _ v' ⟨rfl, e⟩
  obtain rfl := e.symm
  go_wp2_with fail
  refine (nil63 _).mono ?_
  rintro _ v' ⟨rfl, e⟩
  obtain rfl := e.symm
  go_wp2_with fail
  refine (nil64 _).mono ?_
  rintro _ v' ⟨rfl, e⟩
  obtain rfl := e.symm
  go_wp2_with fail
  refine (nil65 _).mono ?_
  rintro _ v' ⟨rfl, e⟩
  obtain rfl := e.symm
  go_wp2_with fail
  refine (nil66 _).mono ?_
  rintro _ v' ⟨rfl, e⟩
  obtain rfl := e.symm
  go_wp2_with fail
  refine (nil67 _).mono ?_
  rintro _ v' ⟨rfl, e⟩
  obtain rfl := e.symm
  go_wp2_with fail
  refine (nil68 _).mono ?_
  rintro _ v' ⟨rfl, e⟩
  obtain rfl := e.symm
  go_wp2_with fail
  refine (nil69 _).mono ?_
  rintro _ v' ⟨rfl, e⟩
  obtain rfl := e.symm
  go_wp2
  go_ret
  exact ⟨rfl, M1.out⟩
end Go.Proofs.YtighocmdlifheaaGreatDoor
