/-
  The walk of the document's mark.
-/
import Derived.Test.YtelanneckjgnbaaDoorLxn
namespace Go.Proofs.YtelanneckjgnbaaDoor
open Go.RowKit

/-- Does mark i stand at a place? -/
def mkB (s : ByteArray) (a i : Nat) : Bool := decide (a + (mk i).size ≤ s.size) && ((s.extract a (a + (mk i).size)).data.toList == (mk i).data.toList)
def mkO (s : ByteArray) (a : Nat) : Option Nat := (List.range 23).find? (mkB s a)
def mkT (s : ByteArray) (a : Nat) : Tk := match mkO s a with | none => tk0 | some i => ⟨4, mk i, 0, 0, a⟩
def mkE (s : ByteArray) (a : Nat) : Int := match mkO s a with | none => 111 | some _ => 0
theorem mkO_some {s : ByteArray} {a i : Nat} (hi : i < 23) (h : ∀ j, j < i → mkB s a j = false) (hm : mkB s a i = true) : mkO s a = some i := by
  unfold mkO
  rw [List.find?_range_eq_some]
  exact ⟨hm, by simpa using hi, fun j hj => by rw [h j hj]; rfl⟩
theorem mkO_none {s : ByteArray} {a : Nat} (h : ∀ j, j < 23 → mkB s a j = false) : mkO s a = none := by
  unfold mkO
  rw [List.find?_eq_none]
  intro x hx
  rw [h x (by simpa using hx)]
  decide
theorem marks_cell (w : World) (j : Nat) (h : j < 23) : (w.alloc (.cells marksV 9)).cell? ⟨w.heap.size, j, none⟩ = some (.string (mk j)) := by
  rw [cell_alloc]
  unfold marksV mk
  have hl : j < marksL.length := h
  simp [List.getElem?_map, List.getElem?_eq_getElem hl, List.getD]
theorem mk_size (i : Nat) : (mk i).size ≤ 2 := by
  unfold mk
  by_cases h : i < 23
  · have : ∀ x ∈ marksL, x.size ≤ 2 := by decide
    have hl : i < marksL.length := h
    rw [List.getD, List.getElem?_eq_getElem hl]
    exact this _ (List.getElem_mem hl)
  · rw [List.getD, List.getElem?_eq_none (by show 23 ≤ i; omega)]
    decide
theorem below_drew {B : Nat} {w w' : World} (h : Below B w w') (n : Nat) : Below B w (w'.drewN n) := ⟨h.os, h.tape, h.output, h.size, h.block⟩
theorem TkH.drewN {w : World} {b : Nat} {t : Tk} (h : TkH w b t) (n : Nat) : TkH (w.drewN n) b t := h

set_option maxRecDepth 100000 in
set_option maxHeartbeats 2000000 in
theorem mark_any (s : ByteArray) (a : Nat) (hs : s.size ≤ 140737488355328) (ha : a ≤ s.size) (w : World) :
    Calls Tryd.prog 70 #[.string s, .int .i64 a] w fun e w' => e = .returned (.tuple #[.agg (tkA (mkT s a)), .int .i64 (mkE s a)]) ∧ Below w.heap.size w w' := by
  have h0 : TkH ((w.alloc (.cells (tkA tk0) 49)).alloc (.cells marksV 9)) w.heap.size tk0 := heap_old (heap_new w _) (by rw [size_alloc]; omega)
  have hc : ∀ j, j < 23 → ((w.alloc (.cells (tkA tk0) 49)).alloc (.cells marksV 9)).cell? ⟨w.heap.size + 1, j, none⟩ = some (.string (mk j)) := fun j hj => by
    have := marks_cell (w.alloc (.cells (tkA tk0) 49)) j hj
    rwa [size_alloc] at this
  have hB := below_two w (.cells (tkA tk0) 49) (.cells marksV 9)
  go_enter Tryd.func70, Tryd.ntmps70
  go_wp2_with fail
  obtain ⟨W, eW⟩ : ∃ W, (w.alloc (.cells (tkA tk0) 49)).alloc (.cells marksV 9) = W := ⟨_, rfl⟩
  rw [eW] at h0 hc hB
  have eW' : (w.alloc (.cells #[.int .u8 0, .string ⟨#[]⟩, .int .u8 0, .int .i64 0, .int .i64 0] 49)).alloc (.cells #[.string ⟨#[61, 61]⟩, .string ⟨#[33, 61]⟩, .string ⟨#[60, 61]⟩, .string ⟨#[62, 61]⟩, .string ⟨#[38, 38]⟩, .string ⟨#[124, 124]⟩, .string ⟨#[123]⟩, .string ⟨#[125]⟩, .string ⟨#[40]⟩, .string ⟨#[41]⟩, .string ⟨#[44]⟩, .string ⟨#[59]⟩, .string ⟨#[63]⟩, .string ⟨#[58]⟩, .string ⟨#[61]⟩, .string ⟨#[33]⟩, .string ⟨#[60]⟩, .string ⟨#[62]⟩, .string ⟨#[43]⟩, .string ⟨#[45]⟩, .string ⟨#[42]⟩, .string ⟨#[47]⟩, .string ⟨#[37]⟩] 9) = W := eW
  rw [eW']
  have H0 := h0.hid
  have HC : Hid (∀ j, j < 23 → W.cell? ⟨w.heap.size + 1, j, none⟩ = some (.string (mk j))) := hc
  clear h0 hc eW eW'
  go_loopw [7] (fun t wr => ∃ i n : Nat, i ≤ 23 ∧ t = .int .i64 i ∧ wr = W.drewN n ∧ Hid (∀ j, j < i → mkB s a j = false)) (fun t _ => 23 - (intOf t).toNat)
  case atStart => exact ⟨0, 0, by omega, rfl, rfl, fun j hj => by omega⟩
  case round =>
    obtain ⟨i, n, hi, rfl, rfl, HR⟩ := hrel
    by_cases hlt : i < 23
    · have hlt' : (i : Int) < 23 := by omega
      have hcell := HC.out i hlt
      have hsz := mk_size i
      obtain ⟨x, ex⟩ : ∃ x, mk i = x := ⟨_, rfl⟩
      rw [ex] at hcell hsz
      obtain ⟨r0, r1, r2, r3, r4⟩ := H0.out.cells
      obtain ⟨f0, f1, f2, f3, f4⟩ := H0.out.froz
      obtain ⟨q, hq⟩ : ∃ q : Nat, a + x.size = q := ⟨_, rfl⟩
      have hq' : (a : Int) + (x.size : Int) = (q : Int) := by omega
      have haq : a ≤ q := by omega
      have haq' : (a : Int) ≤ (q : Int) := by omega
      by_cases hfit : q ≤ s.size
      · have hfit' : (q : Int) ≤ (s.size : Int) := by omega
        obtain ⟨y, ey⟩ : ∃ y, s.extract a q = y := ⟨_, rfl⟩
        by_cases he : y = x
        · have hm : mkB s a i = true := by unfold mkB; rw [ex, hq, ey, he, decide_eq_true hfit]; simp
          have hO := mkO_some hlt HR.out hm
          have KT : Hid (mkT s a = ⟨4, x, 0, 0, a⟩) := by show _ = _; unfold mkT; rw [hO]; simp only [ex]
          have KE : Hid (mkE s a = 0) := by show _ = _; unfold mkE; rw [hO]
          subst he
          clear hm hO ex hq
          go_wp2
          go_quiet (fail)
          go_wp2
          exact bodyPost_ret (results_two (p := 4) (u := 5) (ty := 49) rfl _ _ w.heap.size 49 (tkA ⟨4, y, 0, 0, a⟩) (0, 0) _ rfl ((H0.out.drewN _).put ⟨4, y, 0, 0, a⟩) Tryd.underlying49 rfl (by kernel_rfl)) rfl ⟨by rw [KT.out, KE.out]; rfl, below_put (below_drew hB _) (Nat.le_refl _) _ _ _ _ _⟩
        · have hne := seq_ne he
          have hm : mkB s a i = false := by
            unfold mkB
            rw [ex, hq, ey]
            have : (y.data.toList == x.data.toList) = false := beq_false_of_ne (fun h => he (str_eq h))
            rw [this]; simp
          have hn : Hid (∀ j, j < i + 1 → mkB s a j = false) := fun j hj => by
            by_cases e : j = i
            · subst e; exact hm
            · exact HR.out j (by omega)
          clear hm ex hq he
          go_wp2
          go_quiet (fail)
          go_wp2
          exact ⟨⟨i + 1, _, by omega, by go_num, rfl, hn⟩, by simp only [intOf]; omega⟩
      · have hfit' : ¬ (q : Int) ≤ (s.size : Int) := by omega
        have hm : mkB s a i = false := by unfold mkB; rw [ex, hq, decide_eq_false hfit]; rfl
        have hn : Hid (∀ j, j < i + 1 → mkB s a j = false) := fun j hj => by
          by_cases e : j = i
          · subst e; exact hm
          · exact HR.out j (by omega)
        clear hm ex hq
        go_wp2
        go_quiet (fail)
        go_wp2
        exact ⟨⟨i + 1, _, by omega, by go_num, rfl, hn⟩, by simp only [intOf]; omega⟩
    · obtain rfl : i = 23 := by omega
      have hO := mkO_none HR.out
      have KT : Hid (mkT s a = tk0) := by show _ = _; unfold mkT; rw [hO]
      have KE : Hid (mkE s a = 111) := by show _ = _; unfold mkE; rw [hO]
      obtain ⟨r0, r1, r2, r3, r4⟩ := H0.out.cells
      obtain ⟨f0, f1, f2, f3, f4⟩ := H0.out.froz
      clear hO
      go_wp2
      exact bodyPost_ret (results_two (p := 4) (u := 5) (ty := 49) rfl _ _ w.heap.size 49 (tkA tk0) (0, 0) _ rfl ((H0.out.drewN _).put tk0) Tryd.underlying49 rfl (by kernel_rfl)) rfl ⟨by rw [KT.out, KE.out]; rfl, below_put (below_drew hB _) (Nat.le_refl _) _ _ _ _ _⟩
end Go.Proofs.YtelanneckjgnbaaDoor
