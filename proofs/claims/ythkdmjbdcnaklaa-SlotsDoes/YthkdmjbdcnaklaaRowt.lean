/-
  The walk of SlotsRow: the oldest first, whatever is taken out between.
-/
import Derived.Test.YthkdmjbdcnaklaaRowm
import Derived.Deep.OwnRows
namespace Go.Proofs.Ythkdmjbdcnaklaa
open Go.RowKit

theorem Try.info4 : (Try.prog.info? 4).map (fun i => (i.zero, i.size, i.bytes)) = some (some (.bool false), 1, 1) := by kernel_rfl

/-- One row of an arena, and the marks of what is gone. -/
structure RS (w0 wr : World) (A0 G n : Nat) (th : Nat → Int) (p : Pl) (l : List Nat) (g : Nat → Bool) : Prop where
  rep : RepI wr p 1 n (Q l) th
  A : p.A = A0
  gone : Row wr 4 1 (.slice (some ⟨G, 0, none⟩) n n) n (fun j => .bool (g j))
  ltG : G < wr.heap.size
  foot : ∀ k, Foot p k → w0.heap.size ≤ k ∧ k ≠ G
  bel : Below w0.heap.size w0 wr

theorem RS.step {w0 wr w' : World} {A0 G n : Nat} {th : Nat → Int} {p p' : Pl} {l l' : List Nat} {g : Nat → Bool} (h : RS w0 wr A0 G n th p l g) (r : RepI w' p' 1 n (Q l') th) (st : Stp wr p w' p') : RS w0 w' A0 G n th p' l' g := by
  have hs := h.bel.size
  refine ⟨r, st.A.trans h.A, st.mv.row h.gone (fun k hk hf => (h.foot k hf).2 (by simp [Value.ownBlock] at hk; exact hk.symm)), Nat.lt_of_lt_of_le h.ltG st.mv.size, fun k hk => ?_, h.bel.trans (st.mv.below hs (fun k hk => (h.foot k hk).1))⟩
  rcases st.foot k hk with e | e
  · exact h.foot k e
  · have := h.ltG
    exact ⟨by omega, by omega⟩
theorem RS.mark {w0 wr : World} {A0 G n : Nat} {th : Nat → Int} {p : Pl} {l : List Nat} {g : Nat → Bool} (h : RS w0 wr A0 G n th p l g) (hG : w0.heap.size ≤ G) (y : Nat) : RS w0 (wr.setCell ⟨G, y, none⟩ (.bool true)) A0 G n th p l (upd g y true) := by
  have hm : Mv wr (wr.setCell ⟨G, y, none⟩ (.bool true)) (fun k => k = G) := (Mv.refl wr (fun k => k = G)).setCell (a := ⟨G, y, none⟩) (Or.inl (rfl : G = G)) _
  refine ⟨h.rep.mv hm (fun k hk e => (h.foot k hk).2 e), h.A, (h.gone.set y _).congr (fun j _ => by unfold upd; split <;> rfl), Nat.lt_of_lt_of_le h.ltG hm.size, h.foot, h.bel.trans (hm.below h.bel.size (fun k hk => by subst hk; exact hG))⟩
theorem upd_true {g : Nat → Bool} {y : Nat} (h : g y = true) : upd g y true = g := by
  funext k
  unfold upd
  split
  · rename_i e; rw [e, h]
  · rfl
theorem made_false (w : World) (n : Nat) (hn : n ≤ 300) : Row (w.alloc (.cells (madeCells #[.bool false] n) 4)) 4 1 (.slice (some ⟨w.heap.size, 0, none⟩) n n) n (fun _ => .bool false) := by
  have := World.ownsRow_lit (base := 0) (e := 4) (size := 1) w (madeCells #[.bool false] n) n (Nat.zero_le _) (by simp only [maxLen]; omega) (by rw [size_madeCells, Nat.mul_one])
  unfold Row
  have e : (madeCells #[Value.bool false] n).toList = (List.range (n * 1)).map (fun _ => Value.bool false) := by
    rw [toList_madeCells_one, Nat.mul_one]
    apply List.ext_getElem?
    intro j
    by_cases hj : j < n
    · simp [hj]
    · simp [hj]
  rw [← e]
  exact this

set_option maxRecDepth 100000 in
set_option maxHeartbeats 4000000 in
theorem row_any (la oa : Option Addr) (ll lc ol oc : Nat) (zs os : List Int) (w : World) (hl : Lies w la ll zs) (ho : Lies w oa ol os) (hol : ol ≤ 9223372036854775807) :
    Calls Try.prog 5 #[.slice la ll lc, .slice oa ol oc] w fun e w' => e = .returned (.bool true) ∧ Below w.heap.size w w' := by
  obtain ⟨n, hn⟩ : ∃ n, min ll 300 = n := ⟨_, rfl⟩
  have hn1 : n ≤ 300 := by omega
  have hn2 : n ≤ ll := by omega
  go_enter Try.func5, Try.ntmps5
  go_wp2_with fail
  refine (works_any w).mono ?_
  rintro e w1 ⟨rfl, b1⟩
  go_upto_region 2 with fail
  go_cut [6] from 19 (fun v wx => v = .int .i64 n ∧ wx = w1)
  case first =>
    by_cases h3 : ll ≤ 300
    · have hx : ll = n := by omega
      have h4 : (ll : Int) ≤ 300 := by omega
      go_wp2_with fail
      go_meet
      case rel => exact ⟨rfl, rfl⟩
    · have hx : n = 300 := by omega
      have h4 : ¬ (ll : Int) ≤ 300 := by omega
      go_wp2_with fail
      go_meet
      case rel => exact ⟨by rw [hx]; rfl, rfl⟩
  case rest =>
    obtain ⟨rfl, rfl⟩ := hcut
    clear hn
    have hmk := fun W => run_make_row' (P := Try.prog) 47 4 (.bool false) 1 Try.underlying47 Try.info4 rfl .i64 .i64 n (by omega) (by omega) W
    have cN := rep_newI 1 (n : Int) (by omega) (by omega) (by omega) (by omega) (fun k => zs.getD k 0) wc
    go_wp2_with fail
    refine cN.mono ?_
    rintro e w2 ⟨rfl, r2, m2⟩
    go_wp2_with fail
    have hrow := made_false w2 n hn1
    have b2 : Below w.heap.size w w2 := mv_below b1 b1.size m2
    have hst : RS w (w2.alloc (.cells (madeCells #[.bool false] n) 4)) (wc.heap.size + 1) w2.heap.size n (fun k => zs.getD k 0) (newP wc) (List.range 0) (fun _ => false) := by
      have hs1 := b1.size
      refine ⟨?_, rfl, hrow, by simp, fun k hk => ?_, b2.alloc b2.size _⟩
      · have r := r2.mv (F := fun _ => False) ((Mv.refl w2 _).alloc (.cells (madeCells #[.bool false] n) 4)) (fun _ _ e => e)
        exact r.congr Q_nil (fun _ _ _ _ => rfl)
      · have h1 := newP_foot wc k hk
        have h2 := r2.lt k hk
        exact ⟨by omega, by omega⟩
    have hG : w.heap.size ≤ w2.heap.size := b2.size
    obtain ⟨w3, hw3⟩ : ∃ W, w2.alloc (.cells (madeCells #[.bool false] n) 4) = W := ⟨_, rfl⟩
    obtain ⟨G, hGe⟩ : ∃ G, w2.heap.size = G := ⟨_, rfl⟩
    obtain ⟨A0, hA0⟩ : ∃ A0, wc.heap.size + 1 = A0 := ⟨_, rfl⟩
    rw [hw3, hGe, hA0] at hst
    rw [hGe] at hG
    rw [hw3, hGe, hA0]
    clear hrow r2 m2 cN hmk b2 hw3 hGe hA0 b1
    go_loopw [10, 11, 12] (fun vi _ _ wr => ∃ (i : Nat) (p : Pl), i ≤ n ∧ vi = .int .i64 i ∧ RS w wr A0 G n (fun k => zs.getD k 0) p (List.range i) (fun _ => false)) (fun vi _ _ _ => n - (intOf vi).toNat)
    case atStart => exact ⟨0, _, by omega, rfl, hst⟩
    case round =>
      obtain ⟨i, p, hi, rfl, hrs⟩ := hrel
      clear hst
      by_cases hlt : i < n
      · obtain ⟨b, off, rfl, hbl, hcell⟩ := hl.addr (by omega)
        have hc : wr.cell? ⟨b, off + i, none⟩ = some (.int .i64 (zs.getD i 0)) := (hrs.bel.cell hbl).trans (hcell i (by omega))
        obtain ⟨x, hx⟩ : ∃ x, zs.getD i 0 = x := ⟨_, rfl⟩
        rw [hx] at hc
        have HX : Hid (zs.getD i 0 = x) := hx
        clear hx
        have cP := rep_pushI hrs.rep (i := 0) (by omega) (by rw [Q_total]; simp; omega) x
        rw [hrs.A] at cP
        have HR : Hid (RS w wr A0 G n (fun k => zs.getD k 0) p (List.range i) (fun _ => false)) := hrs
        have hlt2 : i < ll := by omega
        clear hrs hcell
        go_wp2_with fail
        refine cP.mono ?_
        rintro e w4 ⟨m, hm, rfl, p', r', st⟩
        obtain rfl : m = i := hm.eq (Q_least i)
        go_wp2_with fail
        go_round
        case rel =>
          refine ⟨m + 1, p', by omega, by go_num, HR.out.step ?_ st⟩
          refine r'.congr (by rw [Q_upd, Q_zero, List.range_succ]) (fun _ _ k _ => ?_)
          unfold upd
          split
          · rename_i e; rw [e]; exact HX.out.symm
          · rfl
        case measure => simp [intOf]; omega
      · have hie : i = n := by omega
        subst hie
        have hst2 : RS w wr A0 G i (fun k => zs.getD k 0) p (left i (fun _ => false)) (fun _ => false) := by rw [left_all]; exact hrs
        clear hrs
        rename_i _
        obtain ⟨n, hn⟩ : ∃ n, n = i := ⟨_, rfl⟩
        rw [← hn] at hst2 hn1 hn2 hlt
        clear hi
        rw [← hn]
        clear hn
        go_wp2_with fail
        go_loopw [13, 14, 15, 16] (fun vi _ _ _ wr => ∃ (i : Nat) (g : Nat → Bool) (p : Pl), i ≤ ol ∧ vi = .int .i64 i ∧ RS w wr A0 G n (fun k => zs.getD k 0) p (left n g) g) (fun vi _ _ _ _ => ol - (intOf vi).toNat)
        case atStart => exact ⟨0, _, _, by omega, rfl, hst2⟩
        case round =>
          obtain ⟨j, g, p, hj, rfl, hrs⟩ := hrel
          clear hst2
          by_cases hlt : j < ol
          · obtain ⟨b, off, rfl, hbl, hcell⟩ := ho.addr (by omega)
            have hc : wr.cell? ⟨b, off + j, none⟩ = some (.int .i64 (os.getD j 0)) := (hrs.bel.cell hbl).trans (hcell j (by omega))
            obtain ⟨y, hy⟩ : ∃ y, os.getD j 0 = y := ⟨_, rfl⟩
            rw [hy] at hc
            clear hy hcell
            by_cases hr : 0 ≤ y ∧ y < n
            · obtain ⟨hr0, hr1⟩ := hr
              obtain ⟨k, rfl⟩ : ∃ k : Nat, y = k := ⟨y.toNat, by omega⟩
              have hkn : k < n := by omega
              obtain ⟨bl, offl, rfl, hbll, hcelll⟩ := hl.addr (by omega)
              obtain ⟨x, hx⟩ : ∃ x, zs.getD k 0 = x := ⟨_, rfl⟩
              have hkl : k < ll := by omega
              have HR : Hid (RS w wr A0 G n (fun k => zs.getD k 0) p (left n g) g) := hrs
              by_cases hg : g k = true
              · have hno : Non 1 (Q (left n g)) (k : Int) := by
                  intro i hi m hm hmem
                  obtain rfl : i = 0 := by omega
                  obtain rfl : k = m := by omega
                  rw [Q_zero, left_mem] at hmem
                  rw [hg] at hmem
                  simp at hmem
                have cT := rep_take_noI hrs.rep hno
                rw [hrs.A] at cT
                have hgc : wr.cell? ⟨G, k, none⟩ = some (.bool true) := by have := hrs.gone.cell (j := k) (by omega); rwa [hg] at this
                have hgf := hrs.gone.frozen k
                clear hrs hcelll
                go_wp2_with fail
                refine cT.mono ?_
                rintro e w4 ⟨rfl, rfl⟩
                go_wp2_with fail
                go_round
                case rel =>
                  have hm := HR.out.mark hG k
                  rw [upd_true hg] at hm
                  exact ⟨j + 1, g, p, by omega, by go_num, hm⟩
                case measure => simp [intOf]; omega
              · have hg' : g k = false := by simpa using hg
                have hmem : k ∈ left n g := left_mem.2 ⟨hkn, hg'⟩
                obtain ⟨pos, hpos⟩ := List.getElem?_of_mem hmem
                have cT := rep_takeI hrs.rep (i := 0) (k := pos) (n := k) (by omega) hpos
                rw [hrs.A] at cT
                have hcl := fun W (hb : Below w.heap.size w W) => (hb.cell (p := ⟨bl, offl + k, none⟩) hbll).trans (hcelll k hkl)
                rw [hx] at hcl
                simp only [hx] at cT
                clear hrs hcelll hx
                go_wp2_with fail
                refine cT.mono ?_
                rintro e w4 ⟨rfl, p', r', st⟩
                have h4 : RS w w4 A0 G n (fun k => zs.getD k 0) p' ((left n g).eraseIdx pos) g := HR.out.step (r'.congr (by rw [Q_upd, Q_zero]) (fun _ _ _ _ => rfl)) st
                have hgc : w4.cell? ⟨G, k, none⟩ = some (.bool false) := by have := h4.gone.cell (j := k) (by omega); rwa [hg'] at this
                have hgf := h4.gone.frozen k
                have hcl4 := hcl w4 h4.bel
                have HR4 : Hid (RS w w4 A0 G n (fun k => zs.getD k 0) p' ((left n g).eraseIdx pos) g) := h4
                clear h4 hcl cT
                go_wp2_with fail
                go_round
                case rel =>
                  have hm := HR4.out.mark hG k
                  rw [left_take hpos] at hm
                  exact ⟨j + 1, upd g k true, p', by omega, by go_num, hm⟩
                case measure => simp [intOf]; omega
            · have HR : Hid (RS w wr A0 G n (fun k => zs.getD k 0) p (left n g) g) := hrs
              clear hrs
              by_cases h0 : 0 ≤ y
              · have h1 : ¬ y < n := fun h => hr ⟨h0, h⟩
                clear hr
                go_wp2_with fail
                go_round
                case rel => exact ⟨j + 1, g, p, by omega, by go_num, HR.out⟩
                case measure => simp [intOf]; omega
              · clear hr
                go_wp2_with fail
                go_round
                case rel => exact ⟨j + 1, g, p, by omega, by go_num, HR.out⟩
                case measure => simp [intOf]; omega
          · have hje : j = ol := by omega
            subst hje
            have cF := rep_firstI hrs.rep (i := 0) (by omega)
            rw [hrs.A, Q_zero] at cF
            have HR : Hid (RS w wr A0 G n (fun k => zs.getD k 0) p (left n g) g) := hrs
            clear hrs
            go_wp2_with fail
            refine cF.mono ?_
            rintro e w5 ⟨rfl, rfl⟩
            go_wp2_with fail
            go_loop [17, 18] (fun va vi => ∃ (i : Nat), i ≤ n ∧ vi = .int .i64 i ∧ va = .int .i64 (nth (left n g) (cntL g i))) (fun _ vi => n - (intOf vi).toNat)
            case atStart => exact ⟨0, by omega, rfl, rfl⟩
            case round =>
              obtain ⟨i, hi, rfl, rfl⟩ := hrel
              by_cases hlt : i < n
              · have hgc := HR.out.gone.cell (j := i) (by omega)
                by_cases hg : g i = true
                · rw [hg] at hgc
                  go_wp2_with fail
                  go_round
                  case rel => exact ⟨i + 1, by omega, by go_num, by rw [cnt_succ_gone hg]⟩
                  case measure => simp [intOf]; omega
                · have hg' : g i = false := by simpa using hg
                  rw [hg'] at hgc
                  have hat := left_at hlt hg'
                  have hnth := nth_some hat
                  have cX := rep_nextI HR.out.rep (i := 0) (by omega) hat
                  rw [HR.out.A, Q_zero] at cX
                  rw [hnth]
                  clear hat hnth
                  go_wp2_with fail
                  refine cX.mono ?_
                  rintro e w6 ⟨rfl, rfl⟩
                  go_wp2_with fail
                  go_round
                  case rel => exact ⟨i + 1, by omega, by go_num, by rw [cnt_succ hg']⟩
                  case measure => simp [intOf]; omega
              · have hie : i = n := by omega
                have hend : nth (left n g) (cntL g i) = -1 := nth_none (by rw [hie]; exact Nat.le_refl _)
                rw [hend]
                go_wp2_with fail
                go_ret
                exact ⟨rfl, HR.out.bel⟩

/-- A slice of numbers that came in. -/
theorem lies_of_row {w : World} {a : Option Addr} {len cap : Nat} {zs : List Int} (h : (a = none ∧ len = 0 ∧ cap = 0 ∧ zs = []) ∨
    ∃ x, a = some x ∧ len ≤ cap ∧ cap ≤ maxLen ∧ zs.length = cap ∧ (∀ i, i < zs.length → w.cell? (x.add i) = some (.int .i64 (zs.getD i 0))) ∧ ∀ n ∈ zs, (Lit.int .i64 n).wf = true) :
    Lies w a len (zs.take len) ∧ len ≤ 9223372036854775807 := by
  rcases h with ⟨rfl, rfl, rfl, rfl⟩ | ⟨x, rfl, hlc, hm, hz, hc, hw⟩
  · exact ⟨⟨rfl, fun _ => rfl, (fun ad had => by cases had)⟩, by omega⟩
  · refine ⟨⟨by rw [List.length_take]; omega, (fun e => by cases e), fun ad had j hj => ?_⟩, by simp only [maxLen] at hm; omega⟩
    cases had
    rw [hc j (by omega)]
    simp [List.getD, hj]

end Go.Proofs.Ythkdmjbdcnaklaa
