/-
  Plain: the answers for two texts with a line's end between.
-/
import Derived.Test.YtelanneckjgnbaaDoorPk
import Derived.Test.YtelanneckjgnbaaDoorLj
namespace Go.Proofs.YtelanneckjgnbaaDoor
open Go.RowKit

def jn (a b : ByteArray) : ByteArray := a ++ (⟨#[10]⟩ : ByteArray) ++ b
theorem jn_list (a b : ByteArray) : (jn a b).data.toList = a.data.toList ++ 10 :: b.data.toList := by
  unfold jn; simp
theorem jn_size (a b : ByteArray) : (jn a b).size = a.size + 1 + b.size := by
  rw [← len_of, jn_list, List.length_append, List.length_cons, len_of, len_of]; omega
theorem jn_rest (a b : ByteArray) (g : Nat) : rest (jn a b) (a.size + 1 + g) = rest b g := by
  unfold rest
  rw [jn_list, ← len_of a, List.drop_append, List.drop_eq_nil_of_le (by omega), List.nil_append,
    show a.data.toList.length + 1 + g - a.data.toList.length = g + 1 by omega, List.drop_succ_cons]
theorem tks_short' {s : ByteArray} (h : ¬ s.size > 4096) : tksE s = (begO s 0).2.1 ∧ (tksE s = 0 → tksL s = (begO s 0).1) ∧ (tksE s ≠ 0 → tksB s = (begO s 0).2.2) := by
  obtain ⟨a, b, c⟩ := tks_short h (show begO s 0 = ((begO s 0).1, (begO s 0).2.1, (begO s 0).2.2) from rfl)
  exact ⟨a, fun e => (b (a ▸ e)).2, fun e => (c (a ▸ e)).1⟩
theorem jn_all {a b : ByteArray} (h : a.size + b.size ≤ 4095) :
    (tksE a ≠ 0 → tksE (jn a b) = tksE a) ∧
    (tksE a = 0 → tksE b ≠ 0 → tksE (jn a b) = tksE b ∧ tksB (jn a b) = tksB b + (a.size + 1 : Nat)) ∧
    (tksE a = 0 → tksE b = 0 → tksE (jn a b) = 0 ∧ tksL (jn a b) = (tksL a).dropLast ++ (tksL b).map (shf (a.size + 1))) := by
  have hz := jn_size a b
  obtain ⟨a1, a2, a3⟩ := tks_short' (s := a) (by omega)
  obtain ⟨b1, b2, b3⟩ := tks_short' (s := b) (by omega)
  obtain ⟨z1, z2, z3⟩ := tks_short' (s := jn a b) (by omega)
  obtain ⟨j1, j2⟩ := joined (jn_list a b) a.size 0 (by omega) (by omega)
  have hs := beg_shift (b := b) (z := jn a b) (n := a.size + 1) hz (jn_rest a b) b.size 0 (by omega) (by omega)
  rw [Nat.add_zero] at hs
  refine ⟨fun e => ?_, fun e f => ?_, fun e f => ?_⟩
  · rw [z1, a1]; exact j1 (by rw [← a1]; exact e)
  · have hj := j2 (by rw [← a1]; exact e)
    have hE : tksE (jn a b) = tksE b := by rw [z1, hj, hs, b1]
    refine ⟨hE, ?_⟩
    rw [z3 (by rw [hE]; exact f), hj, hs, b3 f, b1] at *
    simp only
    rw [if_neg f]
  · have hj := j2 (by rw [← a1]; exact e)
    have hE : tksE (jn a b) = 0 := by rw [z1, hj, hs, ← f, b1]
    refine ⟨hE, ?_⟩
    rw [z2 hE, hj, hs, a2 e, b2 f]
theorem tks_len {s : ByteArray} (h : tksE s = 0) : 0 < (tksL s).length ∧ (tksL s).length ≤ 4097 ∧ s.size ≤ 4096 ∧ Chain s 0 (tksL s) := by
  have hs : ¬ s.size > 4096 := fun hl => by rw [(tks_long hl).1] at h; exact absurd h (by decide)
  obtain ⟨a1, a2, _⟩ := tks_short' hs
  have hc := (beg_chain (s := s) s.size 0 (by omega) (by omega) (by rw [← a1]; exact h)).1
  rw [← a2 h] at hc
  have hle : ∀ (f : Nat) (L : List Tk), Chain s f L → L.length ≤ s.size - f + 1 := by
    intro f L hc
    induction hc with
    | fin f h1 h2 => simp
    | more f p t L hg hp h1 h2 h3 h4 h5 ih => have := hg.ne; simp only [List.length_cons]; omega
  have := hle _ _ hc
  exact ⟨hc.len, by omega, by omega, hc⟩
theorem lsF_app (K M : List Tk) (i : Nat) : lsF (K ++ M) i = if i < K.length then lsF K i else lsF M (i - K.length) := by
  unfold lsF
  split
  · rename_i h; simp [List.getD, List.getElem?_append_left h]
  · rename_i h; simp [List.getD, List.getElem?_append_right (Nat.le_of_not_lt h)]
theorem lsF_map (f : Tk → Tk) (M : List Tk) (i : Nat) (h : i < M.length) : lsF (M.map f) i = f (lsF M i) := by
  unfold lsF; simp [List.getD, h]
theorem lsF_drop (K : List Tk) (i : Nat) (h : i < K.length - 1) : lsF K.dropLast i = lsF K i := by
  unfold lsF
  simp [List.getD, h, show i < K.length by omega]
/-- Where the place of a token may lie. -/
theorem chain_p {s : ByteArray} {f : Nat} {L : List Tk} (h : Chain s f L) : ∀ t ∈ L, 0 ≤ t.p ∧ t.p + t.x.size ≤ s.size := by
  induction h with
  | fin f h1 h2 =>
    intro t ht
    obtain rfl := List.mem_singleton.1 ht
    exact ⟨(show (0 : Int) ≤ (s.size : Int) by omega), (show (s.size : Int) + (0 : Nat) ≤ (s.size : Int) by omega)⟩
  | more f p t L hg hp h1 h2 h3 h4 h5 ih =>
    intro u hu
    rw [List.mem_cons] at hu
    rcases hu with rfl | hu
    · rw [hp]; omega
    · exact ih u hu
theorem lsF_mem {L : List Tk} {i : Nat} (h : i < L.length) : lsF L i ∈ L := by
  unfold lsF
  rw [List.getD_eq_getElem?_getD, List.getElem?_eq_getElem h]
  exact List.getElem_mem h
theorem begB_le {s : ByteArray} : ∀ (d f : Nat), s.size - f ≤ d → f ≤ s.size → 0 ≤ (begO s f).2.2 ∧ (begO s f).2.2 ≤ s.size := by
  have hB : ∀ f, f ≤ s.size → 0 ≤ oneB s f ∧ oneB s f ≤ s.size := fun f hf => by
    have := oneP_le s f hf
    unfold oneB
    split <;> omega
  intro d
  induction d with
  | zero =>
    intro f hd hf
    by_cases hE : oneE s f = 0
    · by_cases hk : (oneT s f).k = 0
      · rw [beg_end hE hk]; exact ⟨Int.le_refl _, (show (0 : Int) ≤ s.size by omega)⟩
      · have := beg_more hf hE hk; omega
    · rw [beg_bad hE]; exact hB f hf
  | succ d ih =>
    intro f hd hf
    by_cases hE : oneE s f = 0
    · by_cases hk : (oneT s f).k = 0
      · rw [beg_end hE hk]; exact ⟨Int.le_refl _, (show (0 : Int) ≤ s.size by omega)⟩
      · obtain ⟨b1, b2, _, b4⟩ := beg_more hf hE hk
        rw [b4]; exact ih _ (by omega) b2
    · rw [beg_bad hE]; exact hB f hf
theorem tksB_le (s : ByteArray) : 0 ≤ tksB s ∧ tksB s ≤ s.size := by
  unfold tksB
  split
  · exact ⟨Int.le_refl _, by omega⟩
  · split
    · exact ⟨Int.le_refl _, by omega⟩
    · exact begB_le _ 0 (Nat.le_refl _) (by omega)
end Go.Proofs.YtelanneckjgnbaaDoor
