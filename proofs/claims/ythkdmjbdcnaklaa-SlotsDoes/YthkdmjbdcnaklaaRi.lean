/-
  The document's arena: Push and New.
-/
import Derived.Test.YthkdmjbdcnaklaaRh
namespace Go.Proofs.Ythkdmjbdcnaklaa
open Go.RowKit
set_option linter.unusedVariables false

variable {w : World} {f : Rf} {nr room : Nat} {q : Nat → List Nat} {th : Nat → Int}

theorem Try.info79 : (Try.prog.info? 79).map (fun i => (i.zero, i.size, i.bytes)) = some (some (.agg #[.int .i64 0, .int .i64 0]), 2, 16) := by kernel_rfl
theorem Try.info73 : (Try.prog.info? 73).map (fun i => (i.zero, i.size, i.bytes)) = some (some (.slice none 0 0), 1, 24) := by kernel_rfl

theorem thF_snoc {l : List Nat} {th : Nat → Int} {n : Nat} (hn : n ∉ l) (x : Int) (j : Nat) (hj : j < (l.length + 1) * 2) :
    (if j < l.length * 2 then thF l th j else if j - l.length * 2 = 0 then Value.int .i64 n else .int .i64 x) = thF (l ++ [n]) (upd th n x) j := by
  by_cases h : j < l.length * 2
  · rw [if_pos h, thF_other hn x j h]
    unfold thF
    have e : nth (l ++ [n]) (j / 2) = nth l (j / 2) := nth_congr (List.getElem?_append_left (by omega))
    rw [e]
  · rw [if_neg h]
    have e : nth (l ++ [n]) l.length = n := nth_some (by simp)
    unfold thF
    have hd : j / 2 = l.length := by omega
    rw [hd, e, Int.toNat_natCast, upd_same]
    by_cases h2 : j % 2 = 0
    · rw [if_pos (by omega), if_pos h2]
    · rw [if_neg (by omega), if_neg h2]
theorem sn_snoc {q : Nat → List Nat} {nr i n : Nat} (hi : i < nr) (j : Nat) : (if j = n then true else sn q nr j) = sn (upd q i (q i ++ [n])) nr j := by
  by_cases e : j = n
  · rw [if_pos e]
    exact ((sn_iff _ nr j).2 ⟨i, hi, by rw [upd_same, e]; simp⟩).symm
  · rw [if_neg e]
    refine sn_congr ⟨fun ⟨i', hi', hm⟩ => ⟨i', hi', ?_⟩, fun ⟨i', hi', hm⟩ => ⟨i', hi', ?_⟩⟩
    · by_cases ei : i' = i
      · subst ei; rw [upd_same]; exact List.mem_append_left _ hm
      · rw [upd_other _ _ ei]; exact hm
    · by_cases ei : i' = i
      · subst ei; rw [upd_same, List.mem_append, List.mem_singleton] at hm; exact hm.resolve_right e
      · rwa [upd_other _ _ ei] at hm

theorem rpush_after (h : RefAt w f nr room q th) {i n : Nat} (hi : i < nr) (hn : Least nr q n) (x : Int) {o : Obj} {g' c' : Nat} {w2 : World}
    (hown : w2.ownsRow 0 79 2 (.slice (some ⟨g', 0, none⟩) ((q i).length + 1) c') ((q i).length + 1) ((List.range ((q i).length * 2)).map (thF (q i) th) ++ [.int .i64 n, .int .i64 x]))
    (hgr : ((w.setCell ⟨f.U, n, none⟩ (.bool true)).alloc o).drew.grownBy w2 (f.V i).ownBlock) (hlies : (f.V i).ownBlock = some g' ∨ g' = w.heap.size + 1) :
    w2.cell? ⟨f.A, 0, none⟩ = some (.slice (some ⟨f.RR, 0, none⟩) nr nr) ∧ w2.cell? ⟨f.RR, i, none⟩ = some (f.V i) ∧ w2.frozen? ⟨f.RR, i, none⟩ = false ∧
    RefAt (w2.setCell ⟨f.RR, i, none⟩ (.slice (some ⟨g', 0, none⟩) ((q i).length + 1) c')) { f with V := upd f.V i (.slice (some ⟨g', 0, none⟩) ((q i).length + 1) c') } nr room (upd q i (q i ++ [n])) (upd th n x) ∧
    RStp w f (w2.setCell ⟨f.RR, i, none⟩ (.slice (some ⟨g', 0, none⟩) ((q i).length + 1) c')) { f with V := upd f.V i (.slice (some ⟨g', 0, none⟩) ((q i).length + 1) c') } nr := by
  have hnl : ∀ j, j < nr → n ∉ q j := hn.1
  have hrow : Row w2 79 2 (.slice (some ⟨g', 0, none⟩) ((q i).length + 1) c') ((q i).length + 1) (thF (q i ++ [n]) (upd th n x)) := by
    refine (Row.snoc (x := fun j => if j = 0 then .int .i64 n else .int .i64 x) hown rfl (by
      intro j hj
      match j, hj with
      | 0, _ => rfl
      | 1, _ => rfl)).congr (fun j hj => ?_)
    exact thF_snoc (hnl i hi) x j hj
  have mU : Mv w ((w.setCell ⟨f.U, n, none⟩ (.bool true)).alloc o).drew (RFoot f nr) := (((Mv.refl w (RFoot f nr)).setCell (a := ⟨f.U, n, none⟩) (.inl (.inr (.inr (.inl rfl)))) _).alloc o).drew
  have sU : ((w.setCell ⟨f.U, n, none⟩ (.bool true)).alloc o).drew.heap.size = w.heap.size + 1 := by show (((w.setCell ⟨f.U, n, none⟩ (.bool true)).heap.push o)).size = _; simp
  have m2 : Mv w w2 (RFoot f nr) := mU.grown hgr (fun k hk => .inl (.inr (.inr (.inr ⟨i, hi, hk⟩))))
  -- a block of another type than a row's, and not the used marks: as it was
  have bl : ∀ {b : Nat} {t : TypeId} {c : Array Value} {z : Nat × Nat}, w.heap[b]? = some (.cells c t z) → t ≠ 4 → (f.V i).ownBlock ≠ some b → w2.heap[b]? = w.heap[b]? := by
    intro b t c z e ht hv
    have hlt := (Array.getElem?_eq_some_iff.1 e).1
    rw [hgr.block b (by rw [sU]; omega) (fun e2 => hv e2.symm)]
    show ((w.setCell ⟨f.U, n, none⟩ (.bool true)).alloc o).heap[b]? = _
    rw [Below.heap_alloc _ _ _ (by simpa using hlt), Below.heap_setCell _ _ _ _ (h.neU e ht)]
  have neV : ∀ {b : Nat} {t : TypeId} {c : Array Value} {z : Nat × Nat}, w.heap[b]? = some (.cells c t z) → t ≠ 79 → (f.V i).ownBlock ≠ some b := by
    intro b t c z e ht hv
    obtain ⟨c2, z2, e2⟩ := (h.row i hi).kind b hv
    rw [e] at e2
    simp at e2
    exact ht e2.2.1
  have eA : w2.heap[f.A]? = w.heap[f.A]? := bl h.own (by decide) (neV h.own (by decide))
  obtain ⟨cr, zr, er⟩ := h.rows.kind f.RR rfl
  have eR : w2.heap[f.RR]? = w.heap[f.RR]? := bl er (by decide) (neV er (by decide))
  have hrr : Row w2 73 1 (.slice (some ⟨f.RR, 0, none⟩) nr nr) nr f.V := h.rows.of_block (fun b hb => by simp [Value.ownBlock] at hb; subst hb; exact eR)
  have hu2 : Row w2 4 1 (.slice (some ⟨f.U, 0, none⟩) room room) room (fun j => .bool (sn (upd q i (q i ++ [n])) nr j)) := by
    have h1 : Row ((w.setCell ⟨f.U, n, none⟩ (.bool true)).alloc o).drew 4 1 (.slice (some ⟨f.U, 0, none⟩) room room) room (fun j => .bool (sn (upd q i (q i ++ [n])) nr j)) :=
      ((h.used.set n (.bool true)).congr (fun j _ => by rw [← sn_snoc hi]; split <;> rfl)).alloc o
    refine h1.kept hgr ?_
    right
    intro e
    obtain ⟨cu, zu, eu⟩ := h.used.kind f.U rfl
    exact neV eu (by decide) (by rw [← e]; rfl)
  have hgRR : g' ≠ f.RR := by
    rintro rfl
    obtain ⟨c3, z3, e3⟩ := hrow.kind _ rfl
    rw [eR, er] at e3
    simp at e3
  have st : ∀ b, b ≠ f.RR → (w2.setCell ⟨f.RR, i, none⟩ (.slice (some ⟨g', 0, none⟩) ((q i).length + 1) c')).heap[b]? = w2.heap[b]? := fun b hb => Below.heap_setCell _ _ _ _ hb
  have hgf : (f.V i).ownBlock = some g' ∨ w.heap.size ≤ g' := hlies.elim .inl (fun e => .inr (by omega))
  refine ⟨(own_cell (eA.trans h.own)).1, hrr.cell (by omega), hrr.frozen i, ?_, ?_⟩
  · refine h.next hi ((st _ (h.neRR h.own (by decide))).trans eA) ((hrr.set i _).congr (fun j _ => by unfold upd; split <;> rfl)) (hu2.of_block (fun b hb => st b ?_)) ?_ (fun j hj hji => ?_) (fun b hb => ?_)
    · simp [Value.ownBlock] at hb
      subst hb
      obtain ⟨cu, zu, eu⟩ := h.used.kind f.U rfl
      exact h.neRR eu (by decide)
    · have e : (q i ++ [n]).length = (q i).length + 1 := by simp
      rw [e]
      exact hrow.of_block (fun b hb => st b (by simp [Value.ownBlock] at hb; subst hb; exact hgRR))
    · refine ((h.row j hj).of_block (fun b hb => ?_)).congr (fun k hk => thF_other (hnl j hj) x k hk)
      obtain ⟨c3, z3, e3⟩ := (h.row j hj).kind b hb
      rw [st b (h.neRR e3 (by decide))]
      exact bl e3 (by decide) (fun e4 => h.apart j i hj hi hji b hb e4)
    · simp [Value.ownBlock] at hb
      subst hb
      rcases hgf with e | e
      · exact .inl e
      · right
        intro j hj e2
        have := (h.row j hj).lt _ e2
        omega
  · refine ⟨rfl, m2.setCell (a := ⟨f.RR, i, none⟩) (.inl (.inr (.inl rfl))) _, ?_⟩
    rintro b (e | e | e | ⟨j, hj, e⟩)
    · exact .inl (.inl e)
    · exact .inl (.inr (.inl e))
    · exact .inl (.inr (.inr (.inl e)))
    · have e' : (upd f.V i (.slice (some ⟨g', 0, none⟩) ((q i).length + 1) c') j).ownBlock = some b := e
      by_cases ej : j = i
      · subst ej
        rw [upd_same] at e'
        simp [Value.ownBlock] at e'
        subst e'
        exact hgf.elim (fun e => .inl (.inr (.inr (.inr ⟨j, hj, e⟩)))) .inr
      · rw [upd_other _ _ ej] at e'
        exact .inl (.inr (.inr (.inr ⟨j, hj, e'⟩)))

theorem rpush_bad (h : RefAt w f nr room q th) {i : Int} (hi : i < 0 ∨ (nr : Int) ≤ i) (x : Int) :
    Calls Try.prog 32 #[.pointer (some ⟨f.A, 0, none⟩), .int .i64 i, .int .i64 x] w fun e w' => e = .returned (.tuple #[.int .i64 0, .int .i64 1]) ∧ w' = w := by
  go_enter Try.func32, Try.ntmps32
  go_wp2_with fail
  refine (is_no h hi).mono ?_
  rintro e w1 ⟨rfl, rfl⟩
  go_wp2_with fail
  go_ret2
  exact ⟨rfl, rfl⟩

set_option maxRecDepth 100000 in
theorem rpush_full (h : RefAt w f nr room q th) (hq : Qk nr room q) {i : Nat} (hi : i < nr) (hf : ∀ n, n < room → ∃ j, j < nr ∧ n ∈ q j) (x : Int) :
    Calls Try.prog 32 #[.pointer (some ⟨f.A, 0, none⟩), .int .i64 i, .int .i64 x] w fun e w' => e = .returned (.tuple #[.int .i64 0, .int .i64 40]) ∧ w' = w := by
  have h1 := h.a1
  have h2 := h.a2
  have hqr := hq.room
  go_enter Try.func32, Try.ntmps32
  go_wp2_with fail
  refine (is_yes h hi).mono ?_
  rintro e w1 ⟨rfl, rfl⟩
  go_wp2_with fail
  go_loop [9] (fun v => ∃ m : Nat, m ≤ room ∧ v = .int .i64 m) (fun v => room - (intOf v).toNat)
  case atStart => exact ⟨0, by omega, rfl⟩
  case round =>
    obtain ⟨m, hm, rfl⟩ := hrel
    by_cases hlt : m < room
    · have hu := h.u hlt
      rw [(sn_iff q nr m).2 (hf m hlt)] at hu
      have hb : (m : Int) < (room : Int) := by omega
      go_wp2_with fail
      go_round
      case rel => exact ⟨m + 1, by omega, by go_num⟩
      case measure => simp [intOf]; omega
    · have hb : ¬ (m : Int) < (room : Int) := by omega
      go_wp2_with fail
      go_ret2
      exact ⟨rfl, rfl⟩

theorem two_new (w : World) (n x : Int) : ∀ j u, [Value.int .i64 n, .int .i64 x][j]? = some u → (w.alloc (.cells #[.int .i64 n, .int .i64 x] 79)).drew.cell? ((⟨w.heap.size, 0, none⟩ : Addr).add j) = some u := by
  intro j u hu
  have hh : (w.alloc (.cells #[.int .i64 n, .int .i64 x] 79)).drew.heap[w.heap.size]? = some (.cells #[.int .i64 n, .int .i64 x] 79 (0, 0)) := heap_alloc_new w _
  exact World.news_of_block hh j u (by simpa using hu)

set_option maxRecDepth 100000 in
set_option maxHeartbeats 1000000 in
theorem rpush (h : RefAt w f nr room q th) (hq : Qk nr room q) {i n : Nat} (hi : i < nr) (hn : Least nr q n) (hnr : n < room) (x : Int) :
    Calls Try.prog 32 #[.pointer (some ⟨f.A, 0, none⟩), .int .i64 i, .int .i64 x] w fun e w' => e = .returned (.tuple #[.int .i64 n, .int .i64 0]) ∧ ∃ f', RefAt w' f' nr room (upd q i (q i ++ [n])) (upd th n x) ∧ RStp w f w' f' nr := by
  have h0 := h.a0
  have h1 := h.a1
  have h2 := h.a2
  have hqr := hq.room
  have hqn := hq.nr
  go_enter Try.func32, Try.ntmps32
  go_wp2_with fail
  refine (is_yes h hi).mono ?_
  rintro e w1 ⟨rfl, rfl⟩
  go_wp2_with fail
  go_loop [9] (fun v => ∃ m : Nat, m ≤ n ∧ v = .int .i64 m) (fun v => n + 1 - (intOf v).toNat)
  case atStart => exact ⟨0, by omega, rfl⟩
  case round =>
    obtain ⟨m, hm, rfl⟩ := hrel
    have hlt : m < room := by omega
    have hu := h.u hlt
    have hb : (m : Int) < (room : Int) := by omega
    by_cases hmn : m < n
    · rw [(sn_iff q nr m).2 (hn.2 m hmn)] at hu
      go_wp2_with fail
      go_round
      case rel => exact ⟨m + 1, by omega, by go_num⟩
      case measure => simp [intOf]; omega
    · obtain rfl : m = n := by omega
      rw [sn_false hn.1] at hu
      have fu := h.used.frozen m
      obtain ⟨i0, hi0, hz0, hz1, hz2⟩ := info_parts Try.info79
      obtain ⟨ao, c, hV, hat⟩ := h.form hi
      have hlen := hq.len hi
      have hbi : (i : Int) < (nr : Int) := by omega
      obtain ⟨W1, hW1⟩ : ∃ W, w1.setCell ⟨f.U, m, none⟩ (.bool true) = W := ⟨_, rfl⟩
      have sW1 : W1.heap.size = w1.heap.size := by rw [← hW1]; simp
      have k1 : ∀ {b : Nat} {t : TypeId} {c : Array Value} {z : Nat × Nat}, w1.heap[b]? = some (.cells c t z) → t ≠ 4 → W1.heap[b]? = w1.heap[b]? := by
        intro b t c z e ht
        rw [← hW1]; exact Below.heap_setCell _ _ _ _ (h.neU e ht)
      have eA := (k1 h.own (by decide)).trans h.own
      have hrr : Row W1 73 1 (.slice (some ⟨f.RR, 0, none⟩) nr nr) nr f.V := h.rows.of_block (fun b hb => by obtain ⟨c, z, e⟩ := h.rows.kind b hb; exact k1 e (by decide))
      have hri : Row W1 79 2 (f.V i) (q i).length (thF (q i) th) := (h.row i hi).of_block (fun b hb => by obtain ⟨c, z, e⟩ := (h.row i hi).kind b hb; exact k1 e (by decide))
      have cA : W1.cell? ⟨f.A, 0, none⟩ = some (.slice (some ⟨f.RR, 0, none⟩) nr nr) := (own_cell eA).1
      have cR : W1.cell? ⟨f.RR, i, none⟩ = some (f.V i) := hrr.cell (by omega)
      have ltA : f.A < W1.heap.size := by rw [sW1]; exact h.ltA
      have ltR : f.RR < W1.heap.size := hrr.lt f.RR rfl
      have cA2 : (W1.alloc (.cells #[.int .i64 m, .int .i64 x] 79)).cell? ⟨f.A, 0, none⟩ = some (.slice (some ⟨f.RR, 0, none⟩) nr nr) := (World.cell?_of_block (Below.heap_alloc W1 _ f.A ltA)).trans cA
      have cR2 : (W1.alloc (.cells #[.int .i64 m, .int .i64 x] 79)).cell? ⟨f.RR, i, none⟩ = some (f.V i) := (World.cell?_of_block (Below.heap_alloc W1 _ f.RR ltR)).trans cR
      have hr0 : Row (W1.alloc (.cells #[.int .i64 m, .int .i64 x] 79)).drew 79 2 (f.V i) (q i).length (thF (q i) th) := hri.alloc _
      have hnew := two_new W1 m x
      rw [sW1] at hnew
      have hone : ∀ u ∈ [Value.int .i64 (m : Int), .int .i64 x], u.oneCell' = true := by intro u hu; simp at hu; rcases hu with rfl | rfl <;> rfl
      have hmx : (q i).length + 1 ≤ maxLen := by simp only [maxLen]; omega
      have hsz : (W1.alloc (.cells #[.int .i64 m, .int .i64 x] 79)).drew.heap.size = w1.heap.size + 1 := by show (W1.heap.push _).size = _; simp [sW1]
      have HA : ∀ g' c' w2, w2.ownsRow 0 79 2 (.slice (some ⟨g', 0, none⟩) ((q i).length + 1) c') ((q i).length + 1) ((List.range ((q i).length * 2)).map (thF (q i) th) ++ [.int .i64 m, .int .i64 x]) → (W1.alloc (.cells #[.int .i64 m, .int .i64 x] 79)).drew.grownBy w2 (f.V i).ownBlock → ((f.V i).ownBlock = some g' ∨ g' = w1.heap.size + 1) → _ := fun g' c' w2 a1 a2 a3 => rpush_after h hi hn x (g' := g') (c' := c') (w2 := w2) a1 (by rw [hW1]; exact a2) a3
      rw [hV] at cR cR2 hr0 HA
      clear k1 eA hrr hri
      go_wp2_with fail
      clear hW1
      go_region_law (refine step_append_lies _ rfl (.tmp 48) (.tmp 52) 73 rfl 0 79 i0 (.agg #[.int .i64 0, .int .i64 0]) 2 16 Try.underlying73 hi0 hz0 hz1 hz2 rfl (by decide) (.slice ao (q i).length c) (q i).length _ (by simp [Act.eval]) hr0 ⟨w1.heap.size, 0, none⟩ 1 1 [.int .i64 m, .int .i64 x] (by simp [Act.eval]) rfl hnew hone (by decide) hmx (by omega) (Nat.zero_le _) (w1.heap.size + 1) hsz ?_; intro g' c' w2 hown hgr hlies _; obtain ⟨r0, r1, r2, r3, r4⟩ := HA g' c' w2 hown hgr hlies)
      all_goals go_wp2_with fail
      all_goals go_ret2
      all_goals exact ⟨rfl, _, r3, r4⟩

theorem row_of_heap {W : World} {b n : Nat} {t : TypeId} {z : Value} (h : W.heap[b]? = some (.cells (madeCells #[z] n) t (0, 0))) (hn : n ≤ 65536) : Row W t 1 (.slice (some ⟨b, 0, none⟩) n n) n (fun _ => z) := by
  refine ⟨by simp, .inr ⟨b, n, _, rfl, Nat.zero_le _, h, Nat.le_refl _, by simp only [maxLen]; omega, by rw [size_madeCells, Nat.mul_one], ?_⟩⟩
  rw [toList_madeCells_one, Nat.mul_one]
  apply List.ext_getElem?
  intro j
  by_cases hj : j < n
  · simp [hj]
  · simp [hj]

theorem ref_of_heap {W : World} {A RR U : Nat} (hA : W.heap[A]? = some (.cells #[.slice (some ⟨RR, 0, none⟩) nr nr, .int .i64 room, .slice (some ⟨U, 0, none⟩) room room] 64 (0, 0)))
    (hr : W.heap[RR]? = some (.cells (madeCells #[.slice none 0 0] nr) 73 (0, 0))) (hu : W.heap[U]? = some (.cells (madeCells #[.bool false] room) 4 (0, 0))) (h1 : nr ≤ 65536) (h2 : room ≤ 65536) (th : Nat → Int) :
    RefAt W ⟨A, RR, U, fun _ => .slice none 0 0⟩ nr room (fun _ => []) th := by
  refine ⟨hA, row_of_heap hr h1, fun i _ => Row.nil _ _ _ _, (row_of_heap hu h2).congr (fun j _ => ?_), fun i j _ _ _ b hb => by cases hb⟩
  rw [sn_false (fun i _ => by simp)]

theorem rnew_bad (rows rm : Int) (h : newOk rows rm = false) (w : World) :
    Calls Try.prog 8 #[.int .i64 rows, .int .i64 rm] w fun e w' => e = .returned (.tuple #[.pointer none, .int .i64 1]) ∧ w' = w := by
  have hh : ¬ (1 ≤ rows ∧ rows ≤ 65536 ∧ 0 ≤ rm ∧ rm ≤ 65536) := by rw [← newOk_iff, h]; simp
  by_cases a : rows < 1
  · go_enter Try.func8, Try.ntmps8
    go_wp2_with fail
    go_ret2
    exact ⟨rfl, rfl⟩
  · by_cases b : 65536 < rows
    · go_enter Try.func8, Try.ntmps8
      go_wp2_with fail
      go_ret2
      exact ⟨rfl, rfl⟩
    · by_cases c : rm < 0
      · go_enter Try.func8, Try.ntmps8
        go_wp2_with fail
        go_ret2
        exact ⟨rfl, rfl⟩
      · have d : 65536 < rm := by omega
        go_enter Try.func8, Try.ntmps8
        go_wp2_with fail
        go_ret2
        exact ⟨rfl, rfl⟩

theorem heap_al (W : World) (o : Obj) : (W.alloc o).heap[W.heap.size]? = some o := heap_alloc_new W o
theorem heap_ao (W : World) (o : Obj) (k : Nat) (h : k < W.heap.size) : (W.alloc o).heap[k]? = W.heap[k]? := Below.heap_alloc W o k h

set_option maxRecDepth 100000 in
theorem rnew (n m : Nat) (hn : 1 ≤ n) (hn2 : n ≤ 65536) (hm : m ≤ 65536) (th : Nat → Int) (w : World) :
    Calls Try.prog 8 #[.int .i64 n, .int .i64 m] w fun e w' => ∃ f, e = .returned (.tuple #[.pointer (some ⟨f.A, 0, none⟩), .int .i64 0]) ∧ RefAt w' f n m (fun _ => []) th ∧ Mv w w' (fun _ => False) ∧ ∀ k, RFoot f n k → w.heap.size ≤ k := by
  have hmk1 := fun W => run_make_row' (P := Try.prog) 62 73 (.slice none 0 0) 24 Try.underlying62 Try.info73 rfl .i64 .i64 n (by omega) (by omega) W
  have hmk2 := fun W => run_make_row' (P := Try.prog) 47 4 (.bool false) 1 Try.underlying47 Try.info4 rfl .i64 .i64 m (by omega) (by omega) W
  have d1 : decide ((n : Int) < 1) = false := decide_eq_false (by omega)
  have d2 : decide (65536 < (n : Int)) = false := decide_eq_false (by omega)
  have d3 : decide ((m : Int) < 0) = false := decide_eq_false (by omega)
  have d4 : decide (65536 < (m : Int)) = false := decide_eq_false (by omega)
  go_enter Try.func8, Try.ntmps8
  go_wp2_with fail
  go_region
  all_goals go_wp2_with fail
  all_goals go_ret2
  · refine ⟨⟨w.heap.size + 1 + 1, w.heap.size, w.heap.size + 1, fun _ => .slice none 0 0⟩, rfl, ref_of_heap (A := w.heap.size + 1 + 1) (RR := w.heap.size) (U := w.heap.size + 1) ?_ ?_ ?_ hn2 hm th, ?_, ?_⟩
    · have := heap_al ((w.alloc (.cells (madeCells #[.slice none 0 0] n) 73)).alloc (.cells (madeCells #[.bool false] m) 4)) (.cells #[.slice (some ⟨w.heap.size, 0, none⟩) n n, .int .i64 m, .slice (some ⟨w.heap.size + 1, 0, none⟩) m m] 64)
      rw [World.size_alloc, World.size_alloc] at this
      exact this
    · show ((((w.alloc (.cells (madeCells #[.slice none 0 0] n) 73)).alloc (.cells (madeCells #[.bool false] m) 4)).alloc _)).heap[w.heap.size]? = _
      rw [heap_ao _ _ _ (by simp; omega), heap_ao _ _ _ (by simp), heap_al]
    · show ((((w.alloc (.cells (madeCells #[.slice none 0 0] n) 73)).alloc (.cells (madeCells #[.bool false] m) 4)).alloc _)).heap[w.heap.size + 1]? = _
      rw [heap_ao _ _ _ (by simp)]
      have := heap_al (w.alloc (.cells (madeCells #[.slice none 0 0] n) 73)) (.cells (madeCells #[.bool false] m) 4)
      rwa [World.size_alloc] at this
    · exact (((Mv.refl w (fun _ => False)).alloc _).alloc _).alloc _ |>.drew
    · rintro k (e | e | e | ⟨i, hi, e⟩)
      · rw [e]; show w.heap.size ≤ w.heap.size + 1 + 1; omega
      · rw [e]; exact Nat.le_refl _
      · rw [e]; show w.heap.size ≤ w.heap.size + 1; omega
      · cases e
  · refine ⟨⟨w.heap.size + 1 + 1, w.heap.size + 1, w.heap.size, fun _ => .slice none 0 0⟩, rfl, ref_of_heap (A := w.heap.size + 1 + 1) (RR := w.heap.size + 1) (U := w.heap.size) ?_ ?_ ?_ hn2 hm th, ?_, ?_⟩
    · have := heap_al ((w.alloc (.cells (madeCells #[.bool false] m) 4)).alloc (.cells (madeCells #[.slice none 0 0] n) 73)) (.cells #[.slice (some ⟨w.heap.size + 1, 0, none⟩) n n, .int .i64 m, .slice (some ⟨w.heap.size, 0, none⟩) m m] 64)
      rw [World.size_alloc, World.size_alloc] at this
      exact this
    · show ((((w.alloc (.cells (madeCells #[.bool false] m) 4)).alloc (.cells (madeCells #[.slice none 0 0] n) 73)).alloc _)).heap[w.heap.size + 1]? = _
      rw [heap_ao _ _ _ (by simp)]
      have := heap_al (w.alloc (.cells (madeCells #[.bool false] m) 4)) (.cells (madeCells #[.slice none 0 0] n) 73)
      rwa [World.size_alloc] at this
    · show ((((w.alloc (.cells (madeCells #[.bool false] m) 4)).alloc (.cells (madeCells #[.slice none 0 0] n) 73)).alloc _)).heap[w.heap.size]? = _
      rw [heap_ao _ _ _ (by simp; omega), heap_ao _ _ _ (by simp), heap_al]
    · exact (((Mv.refl w (fun _ => False)).alloc _).alloc _).alloc _ |>.drew
    · rintro k (e | e | e | ⟨i, hi, e⟩)
      · rw [e]; show w.heap.size ≤ w.heap.size + 1 + 1; omega
      · rw [e]; show w.heap.size ≤ w.heap.size + 1; omega
      · rw [e]; exact Nat.le_refl _
      · cases e

end Go.Proofs.Ythkdmjbdcnaklaa
