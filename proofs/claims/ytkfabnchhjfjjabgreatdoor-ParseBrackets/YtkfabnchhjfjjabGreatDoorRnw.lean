/-
  newReader: the tokens of a text, and what is wrong behind them.
-/
import Derived.Test.YtkfabnchhjfjjabGreatDoorAcl
import Derived.Test.YtkfabnchhjfjjabGreatDoorRod
namespace Go.Proofs.YtkfabnchhjfjjabGreatDoor
open Go.RowKit
/-- The tokens that a reading begins with. -/
def rdT (s : ByteArray) : List Tk := if tksE s = 0 then tksL s else allL s
/-- What stands behind them, if they are not all. -/
def FeAt (w : World) (s : ByteArray) (fa : Int) (fe : Value) : Prop :=
  (tksE s = 0 → fa = 0 ∧ fe = .nilIface) ∧
  (tksE s ≠ 0 → fa = tksB s ∧ ∃ F, fe = .iface 75 (.pointer (some ⟨F, 0, none⟩)) ∧ w.heap[F]? = some (.cells #[.string ⟨#[84, 111, 107, 101, 110, 115]⟩, .int .i64 (tksB s), .iface 25 (.int .i64 (tksE s))] 77 (0, 0)))
theorem FeAt.on {w w' : World} {s : ByteArray} {fa : Int} {fe : Value} (h : FeAt w s fa fe) (k : ∀ b, b < w.heap.size → (∀ F, fe = .iface 75 (.pointer (some ⟨F, 0, none⟩)) → b = F → w'.heap[b]? = w.heap[b]?)) : FeAt w' s fa fe :=
  ⟨h.1, fun e => ⟨(h.2 e).1, by
    obtain ⟨F, h1, h2⟩ := (h.2 e).2
    exact ⟨F, h1, (k F (Array.getElem?_eq_some_iff.1 h2).1 F h1 rfl).trans h2⟩⟩⟩
theorem tkF_c (A : Nat → Tk) (i : Nat) : tkF A (i * 5) = .int .u8 (A i).k ∧ tkF A (i * 5 + 1) = .string (A i).x ∧ tkF A (i * 5 + 2) = .int .u8 (A i).ty ∧ tkF A (i * 5 + 3) = .int .i64 (A i).n ∧ tkF A (i * 5 + 4) = .int .i64 (A i).p := by
  unfold tkF
  rw [show i * 5 / 5 = i by omega, show i * 5 % 5 = 0 by omega, show (i * 5 + 1) / 5 = i by omega, show (i * 5 + 1) % 5 = 1 by omega, show (i * 5 + 2) / 5 = i by omega, show (i * 5 + 2) % 5 = 2 by omega, show (i * 5 + 3) / 5 = i by omega, show (i * 5 + 3) % 5 = 3 by omega, show (i * 5 + 4) / 5 = i by omega, show (i * 5 + 4) % 5 = 4 by omega]
  exact ⟨rfl, rfl, rfl, rfl, rfl⟩
theorem lsF_nth {L : List Tk} {i : Nat} (h : i < L.length) : lsF L i = L[i] := by
  unfold lsF
  rw [List.getD_eq_getElem?_getD, List.getElem?_eq_getElem h]; rfl
/-- A reader over a list of tokens. -/
theorem rl_rdr {w Y : World} {v : Value} {L : List Tk} {b : Nat} {fa : Int} {fe : Value} (h : RL w Y v L) (hv : ∀ k, v.ownBlock = some k → k ≠ b) (hb0 : 0 < b) (hl : L.length ≤ 9223372036854775807) (hb : Y.heap[b]? = some (.cells #[v, .int .i64 fa, fe, .int .i64 0] 105 (0, 0))) :
    ∃ G a c, Rdr Y b G L fa fe 0 a c ∧ (G = 0 ∨ w.heap.size ≤ G) := by
  have hbl := (Array.getElem?_eq_some_iff.1 hb).1
  have hrow := h.row
  rcases h.row.2 with ⟨rfl, e⟩ | ⟨g, cap, cur, rfl, _, _, hc1, hc2, _⟩
  · have e' : L = [] := List.length_eq_zero_iff.1 e
    subst e'
    exact ⟨0, none, 0, ⟨hb, by simp, by simp, by simp, by omega, by omega, fun i hi => by simp at hi⟩, .inl rfl⟩
  · have hg : (Value.slice (some ⟨g, 0, none⟩) L.length cap).ownBlock = some g := rfl
    refine ⟨g, some ⟨g, 0, none⟩, cap, ⟨hb, hc1, hc2, by simp, hv g hg, hrow.lt g hg, fun i hi => ⟨0, rfl, ?_⟩⟩, .inr (h.nb g hg)⟩
    obtain ⟨e0, e1, e2, e3, e4⟩ := tkF_c (lsF L) i
    rw [lsF_nth hi] at e0 e1 e2 e3 e4
    rw [Nat.zero_add]
    exact ⟨by rw [Row.cell hrow (by omega), e0], by rw [Row.cell hrow (by omega), e1], by rw [Row.cell hrow (by omega), e2], by rw [Row.cell hrow (by omega), e3], by rw [Row.cell hrow (by omega), e4]⟩
theorem tksL_len (s : ByteArray) : (tksL s).length ≤ 4098 := by
  by_cases h : tksE s = 0
  · have := (tks_len h).2.1; omega
  · unfold tksL; rw [if_neg h]; simp
theorem allL_len2 (s : ByteArray) : (allL s).length ≤ 4096 := by
  by_cases h : s.size > 4096
  · unfold allL; rw [if_pos h]; simp
  · have := allL_len s; omega
set_option maxRecDepth 100000 in
set_option maxHeartbeats 4000000 in
theorem new_any (s : ByteArray) (hs : s.size ≤ 4194304) (w : World) (ht : Tab w) :
    Calls Tryz.prog 23 #[.string s] w fun e w' => ∃ b G a c fa fe, e = .returned (.pointer (some ⟨b, 0, none⟩)) ∧ Rdr w' b G (rdT s) fa fe 0 a c ∧ (G = 0 ∨ w.heap.size ≤ G) ∧ w.heap.size ≤ b ∧ FeAt w' s fa fe ∧ (∀ F, fe = .iface 75 (.pointer (some ⟨F, 0, none⟩)) → F ≠ b) ∧ Below w.heap.size w w' := by
  have cT := tokensp_any s w ht
  have hpos := ht.pos
  by_cases h0 : tksE s = 0
  · have HF : Hid (∀ w', FeAt w' s 0 .nilIface) := fun w' => ⟨fun _ => ⟨rfl, rfl⟩, fun e => absurd h0 e⟩
    have HR : Hid (rdT s = tksL s) := by show _ = _; unfold rdT; rw [if_pos h0]
    have HLn : Hid ((tksL s).length ≤ 9223372036854775807) := by have := tksL_len s; show _ ≤ _; omega
    rw [h0] at cT
    clear h0
    go_enter Tryz.func23, Tryz.ntmps23
    go_wp2_with fail
    refine cT.mono ?_
    rintro e w1 ⟨v, rfl, hr⟩
    obtain ⟨ao, cap, rfl⟩ := hr.sl
    have HRL := hr.hid
    clear cT hr
    go_wp2_with fail
    go_ret
    have hbn := below_new w1 (.cells #[.slice ao (tksL s).length cap, .int .i64 0, .nilIface, .int .i64 0] 105)
    have h1 : w.heap.size ≤ w1.heap.size := HRL.out.B.size
    obtain ⟨G, a, c, h2, h3⟩ := rl_rdr (HRL.out.call hbn) (b := w1.heap.size) (fun k hk e => by have := HRL.out.row.lt k hk; omega) (by omega) HLn.out (heap_new _ _)
    exact ⟨_, G, a, c, 0, .nilIface, rfl, by rw [HR.out]; exact h2, h3, h1, HF.out _, (fun F e => by cases e), below2 HRL.out.B hbn⟩
  · have HF : Hid (∀ w' F, w'.heap[F]? = some (.cells #[.string ⟨#[84, 111, 107, 101, 110, 115]⟩, .int .i64 (tksB s), .iface 25 (.int .i64 (tksE s))] 77 (0, 0)) → FeAt w' s (tksB s) (.iface 75 (.pointer (some ⟨F, 0, none⟩)))) := fun w' F h => ⟨fun e => absurd e h0, fun _ => ⟨rfl, F, rfl, h⟩⟩
    have HR : Hid (rdT s = allL s) := by show _ = _; unfold rdT; rw [if_neg h0]
    have HLn : Hid ((allL s).length ≤ 9223372036854775807) := by have := allL_len2 s; show _ ≤ _; omega
    have hne : (tksE s == 0) = false := beq_false_of_ne h0
    have cA := fun v => all_any s v
    obtain ⟨E, eE⟩ : ∃ E, tksE s = E := ⟨_, rfl⟩
    obtain ⟨B, eB⟩ : ∃ B, tksB s = B := ⟨_, rfl⟩
    rw [eE] at cT hne HF
    rw [eB] at cT HF
    clear h0 eE eB
    go_enter Tryz.func23, Tryz.ntmps23
    go_wp2_with fail
    refine cT.mono ?_
    rintro e w1 ⟨v, rfl, hr⟩
    obtain ⟨ao, cap, rfl⟩ := hr.sl
    have HB1 : Hid (Below w.heap.size w w1) := hr.B
    clear cT hr
    go_wp2_with fail
    refine (cA _).mono ?_
    rintro e w2 ⟨rfl, e2⟩
    have hb2 : Below w1.heap.size w1 w2 := by rw [e2]; exact below_new _ _
    have hx2 : Boxed w2 w1.heap.size 9 (.string s) := by rw [e2]; exact Boxed.new w1 9 _
    have HB2 : Hid (Below w.heap.size w w2) := below2 HB1.out hb2
    have cC := collect_any s hs w1.heap.size w2 (ht.on HB2.out) hx2
    clear e2 hb2 hx2 cA
    go_wp2_with fail
    refine cC.mono ?_
    rintro e w3 ⟨v3, rfl, hr3⟩
    obtain ⟨ao3, cap3, rfl⟩ := hr3.sl
    have HR3 := hr3.hid
    have HB3 : Hid (Below w.heap.size w w3) := below2 HB2.out hr3.B
    clear cC hr3
    obtain ⟨V4, eV4⟩ : ∃ V, w3.alloc (.cells #[.string ⟨#[84, 111, 107, 101, 110, 115]⟩, .int .i64 B, .iface 25 (.int .i64 E)] 77) = V := ⟨_, rfl⟩
    have b4 : Below w3.heap.size w3 V4 := by rw [← eV4]; exact below_new _ _
    have HF4 : Hid (V4.heap[w3.heap.size]? = some (.cells #[.string ⟨#[84, 111, 107, 101, 110, 115]⟩, .int .i64 B, .iface 25 (.int .i64 E)] 77 (0, 0))) := by rw [← eV4]; exact heap_new _ _
    have s4 : Hid (V4.heap.size = w3.heap.size + 1) := by rw [← eV4]; exact size_alloc _ _
    have HR4 := (HR3.out.call b4).hid
    have HB4 : Hid (Below w.heap.size w V4) := below2 HB3.out b4
    have HEV : Hid (w3.alloc (.cells #[.string ⟨#[84, 111, 107, 101, 110, 115]⟩, .int .i64 B, .iface 25 (.int .i64 E)] 77) = V4) := eV4
    clear eV4 b4
    go_wp2_with fail
    go_ret
    have hbn := below_new V4 (.cells #[.slice ao3 (allL s).length cap3, .int .i64 B, .iface 75 (.pointer (some ⟨w3.heap.size, 0, none⟩)), .int .i64 0] 105)
    have h1 := HB4.out.size
    have h2s := s4.out
    obtain ⟨G, a, c, h2, h3⟩ := rl_rdr (HR4.out.call hbn) (b := V4.heap.size) (fun k hk e => by have := HR4.out.row.lt k hk; omega) (by omega) HLn.out (heap_new _ _)
    refine ⟨V4.heap.size, G, a, c, B, _, ?_, by rw [HR.out]; first | exact h2 | (rw [HEV.out]; exact h2), ?_, h1, ?_, ?_, ?_⟩
    · first | rfl | (rw [← HEV.out]; simp)
    · rcases h3 with h3 | h3
      · exact .inl h3
      · exact .inr (Nat.le_trans HB2.out.size h3)
    · refine HF.out _ _ ?_
      rw [HEV.out]
      exact (hbn.block _ (by omega)).trans HF4.out
    · intro F e; cases e; omega
    · rw [HEV.out]; exact below2 HB4.out hbn
end Go.Proofs.YtkfabnchhjfjjabGreatDoor
