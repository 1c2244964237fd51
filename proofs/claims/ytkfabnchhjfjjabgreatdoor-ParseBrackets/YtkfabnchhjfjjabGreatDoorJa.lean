import Derived.Test.YtkfabnchhjfjjabGreatDoorLq
import Derived.Test.YtkfabnchhjfjjabGreatDoorLx2
import Derived.Test.YtkfabnchhjfjjabGreatDoorPk
/-
  Plain: lists of tokens: their places, two texts joined, tokens by themselves, other gaps.
-/
namespace Go.Proofs.YtkfabnchhjfjjabGreatDoor

theorem ov_lt : ∀ (l m : List UInt8) (r : Bool), ov l r < l.length → ov (l ++ m) r = ov l r
  | [], m, r, h => absurd h (by simp [ov])
  | c :: l, m, r, h => by
    rw [List.cons_append, ov, ov]
    rw [ov] at h
    split
    · rfl
    · rename_i hc
      rw [if_neg hc] at h
      rw [ov_lt l m _ (by simp only [List.length_cons] at h; omega)]
theorem ov_all : ∀ (l m : List UInt8) (r : Bool), ov l r = l.length → ov (l ++ m) r = l.length + ov m (l.foldl remB r)
  | [], m, r, h => by simp
  | c :: l, m, r, h => by
    rw [ov] at h
    by_cases hc : remB r c = false ∧ blankB c = false
    · rw [if_pos hc] at h; simp at h
    · rw [if_neg hc] at h
      rw [List.cons_append, ov_go hc, ov_all l m _ (by simp only [List.length_cons] at h; omega)]
      simp only [List.length_cons, List.foldl_cons]; omega
theorem ov_take : ∀ (l : List UInt8) (r : Bool), ov (l.take (ov l r)) r = ov l r
  | [], r => by simp [ov]
  | c :: l, r => by
    by_cases hc : remB r c = false ∧ blankB c = false
    · rw [ov, if_pos hc]; rfl
    · rw [ov_go hc, List.take_succ_cons, ov_go hc, ov_take l _]
theorem ov_drop : ∀ (l : List UInt8) (r : Bool), ov l r < l.length → ov (l.drop (ov l r)) false = 0
  | [], r, h => absurd h (by simp [ov])
  | c :: l, r, h => by
    by_cases hc : remB r c = false ∧ blankB c = false
    · rw [ov_stop hc.1 hc.2, List.drop_zero]
      refine ov_stop ?_ hc.2
      have := hc.1
      unfold remB at this ⊢
      split at this
      · exact absurd this (by simp)
      · rename_i h35
        rw [if_neg h35]
        split <;> rfl
    · rw [ov_go hc] at h ⊢
      rw [List.drop_succ_cons]
      exact ov_drop l _ (by simp only [List.length_cons] at h; omega)
theorem begP {s : ByteArray} {f g : Nat} (hf : f ≤ s.size) (hg : g ≤ s.size) (h : oneP s f = oneP s g) : begO s f = begO s g := by
  have e1 : oneT s f = oneT s g := by unfold oneT; rw [h]
  have e2 : oneE s f = oneE s g := by unfold oneE; rw [h]
  have e3 : oneB s f = oneB s g := by unfold oneB; rw [h, e2]
  have e4 : oneQ s f = oneQ s g := by unfold oneQ; rw [h, e1]
  by_cases hb : oneE s f = 0
  · by_cases hk : (oneT s f).k = 0
    · rw [beg_end hb hk, beg_end (e2 ▸ hb) (e1 ▸ hk), e1]
    · rw [(beg_more hf hb hk).2.2.2, (beg_more hg (e2 ▸ hb) (e1 ▸ hk)).2.2.2, e1, e4]
  · rw [beg_bad hb, beg_bad (e2 ▸ hb), e2, e3]
theorem oneP_end {s : ByteArray} {f : Nat} (h : oneP s f = s.size) : oneE s f = 0 ∧ oneT s f = ⟨0, ⟨#[]⟩, 0, 0, s.size⟩ := by
  unfold oneE oneT
  rw [if_pos h, if_pos h, h]
  exact ⟨rfl, rfl⟩
theorem lx_nil_k {l : List UInt8} {d : Nat} (h : lxE l = 0) : ∃ k n ty v, lx l = some (k, n, ty, v) ∧ tkOf l d = ⟨k, ⟨(l.take n).toArray⟩, ty, v, d⟩ := by
  unfold lxE at h
  unfold tkOf
  cases hl : lx l with
  | none =>
    rw [hl, if_neg (by decide)] at h
    split at h
    · exact absurd h (by decide)
    · split at h <;> exact absurd h (by decide)
  | some q =>
    obtain ⟨k, n, ty, v⟩ := q
    exact ⟨k, n, ty, v, rfl, rfl⟩
def arr (l : List UInt8) : ByteArray := ⟨l.toArray⟩
theorem arr_size (l : List UInt8) : (arr l).size = l.length := by unfold arr; simp [ByteArray.size]
theorem arr_list (l : List UInt8) : (arr l).data.toList = l := rfl
/-- A token that can stand by itself. -/
structure Good (t : Tk) : Prop where
  kk : t.k ≠ 0
  ne : 0 < t.x.size
  bl : ov t.x.data.toList false = 0
  lk : lx t.x.data.toList = some (t.k, t.x.size, t.ty, t.n)
/-- What stands at a place, where it is right and not the end. -/
theorem one_good {s : ByteArray} {f : Nat} (hf : f ≤ s.size) (hE : oneE s f = 0) (h : oneP s f ≠ s.size) :
    Good (oneT s f) ∧ (oneT s f).p = (oneP s f : Nat) ∧ f ≤ oneP s f ∧ oneP s f + (oneT s f).x.size ≤ s.size ∧ s.extract (oneP s f) (oneP s f + (oneT s f).x.size) = (oneT s f).x ∧ lx (rest s (oneP s f)) = some ((oneT s f).k, (oneT s f).x.size, (oneT s f).ty, (oneT s f).n) := by
  obtain ⟨e1, e2⟩ := one_lx s f hf h
  have hP := oneP_le s f hf
  rw [hE] at e2
  obtain ⟨k, n, ty, v, h1, h2⟩ := lx_nil_k (d := oneP s f) e2.symm
  obtain ⟨l1, l2, l3⟩ := lx_len h1
  have h3 : oneT s f = ⟨k, arr ((rest s (oneP s f)).take n), ty, v, (oneP s f : Nat)⟩ := e1.trans h2
  have h4 : (arr ((rest s (oneP s f)).take n)).size = n := by rw [arr_size, List.length_take]; omega
  have h5 : (rest s (oneP s f)).length = s.size - oneP s f := rest_len _ _
  have h6 : ov (rest s (oneP s f)) false = 0 := by
    have := ov_drop (rest s f) false (by rw [rest_len]; unfold oneP at hP h; omega)
    rw [rest_drop] at this
    exact this
  rw [h3]
  refine ⟨⟨l3, ?_, ?_, ?_⟩, rfl, by unfold oneP; omega, ?_, ?_, ?_⟩
  · show 0 < (arr _).size
    rw [h4]; exact l1
  · show ov ((rest s (oneP s f)).take n) false = 0
    have ht := ov_lt ((rest s (oneP s f)).take n) ((rest s (oneP s f)).drop n) false
    rw [List.take_append_drop, h6] at ht
    by_cases hc : ov ((rest s (oneP s f)).take n) false < ((rest s (oneP s f)).take n).length
    · exact (ht hc).symm
    · exfalso
      have hq := ov_all ((rest s (oneP s f)).take n) ((rest s (oneP s f)).drop n) false (by have := ov_le ((rest s (oneP s f)).take n) false; omega)
      rw [List.take_append_drop, h6, List.length_take] at hq
      omega
  · show lx ((rest s (oneP s f)).take n) = some (k, (arr _).size, ty, v)
    rw [h4]; exact lx_take h1
  · show _ + (arr _).size ≤ _
    rw [h4]; omega
  · show s.extract _ (_ + (arr _).size) = arr _
    rw [h4, ext_eq]; rfl
  · show _ = some (k, (arr _).size, ty, v)
    rw [h4]; exact h1
theorem one_k {s : ByteArray} {f : Nat} (hf : f ≤ s.size) (hE : oneE s f = 0) : (oneT s f).k = 0 ↔ oneP s f = s.size := by
  constructor
  · intro h
    by_cases hp : oneP s f = s.size
    · exact hp
    · exact absurd h (one_good hf hE hp).1.kk
  · intro h
    rw [(oneP_end h).2]
/-- A text's tokens, from a place on: where they stand. -/
inductive Chain (s : ByteArray) : Nat → List Tk → Prop
  | fin (f : Nat) (h1 : f ≤ s.size) (h2 : oneP s f = s.size) : Chain s f [⟨0, ⟨#[]⟩, 0, 0, s.size⟩]
  | more (f p : Nat) (t : Tk) (L : List Tk) (hg : Good t) (hp : t.p = (p : Nat)) (h1 : f ≤ p) (h2 : p + t.x.size ≤ s.size) (h3 : s.extract p (p + t.x.size) = t.x) (h4 : oneP s f = p) (h5 : Chain s (p + t.x.size) L) : Chain s f (t :: L)
theorem beg_chain {s : ByteArray} : ∀ (d f : Nat), s.size - f ≤ d → f ≤ s.size → (begO s f).2.1 = 0 → Chain s f (begO s f).1 ∧ (begO s f).2.2 = 0 := by
  intro d
  induction d with
  | zero =>
    intro f hd hf h
    have e : f = s.size := by omega
    have hp : oneP s f = s.size := by have := oneP_le s f hf; unfold oneP at this ⊢; omega
    obtain ⟨a, b⟩ := oneP_end hp
    rw [beg_end a (by rw [b])]
    exact ⟨by rw [b]; exact .fin f hf hp, rfl⟩
  | succ d ih =>
    intro f hd hf h
    by_cases hE : oneE s f = 0
    · by_cases hp : oneP s f = s.size
      · obtain ⟨a, b⟩ := oneP_end hp
        rw [beg_end a (by rw [b])]
        exact ⟨by rw [b]; exact .fin f hf hp, rfl⟩
      · obtain ⟨g1, g2, g3, g4, g5, _⟩ := one_good hf hE hp
        obtain ⟨b1, b2, b3, b4⟩ := beg_more hf hE g1.kk
        rw [b4] at h ⊢
        obtain ⟨i1, i2⟩ := ih (oneQ s f) (by omega) b2 h
        exact ⟨.more f (oneP s f) _ _ g1 g2 g3 g4 g5 rfl i1, i2⟩
    · rw [beg_bad hE] at h
      exact absurd h hE
theorem Chain.len {s : ByteArray} {f : Nat} {L : List Tk} (h : Chain s f L) : 0 < L.length := by cases h <;> simp
/-- A token by itself. -/
theorem alone {t : Tk} (h : Good t) : begO t.x 0 = ([⟨t.k, t.x, t.ty, t.n, 0⟩, ⟨0, ⟨#[]⟩, 0, 0, t.x.size⟩], 0, 0) := by
  have hr : rest t.x 0 = t.x.data.toList := by unfold rest; simp
  have hp : oneP t.x 0 = 0 := by unfold oneP; rw [hr, h.bl]
  have hn : oneP t.x 0 ≠ t.x.size := by rw [hp]; have := h.ne; omega
  obtain ⟨e1, e2⟩ := one_lx t.x 0 (by omega) hn
  rw [hp, hr] at e1 e2
  have hE : oneE t.x 0 = 0 := by rw [e2]; unfold lxE; rw [h.lk]; rfl
  have hT : oneT t.x 0 = ⟨t.k, t.x, t.ty, t.n, 0⟩ := by
    rw [e1]; unfold tkOf; rw [h.lk]
    show (⟨t.k, arr (t.x.data.toList.take t.x.size), t.ty, t.n, _⟩ : Tk) = _
    have : arr (t.x.data.toList.take t.x.size) = t.x := str_eq (by rw [arr_list, List.take_of_length_le (by rw [len_of]; omega)])
    rw [this]; rfl
  obtain ⟨b1, b2, b3, b4⟩ := beg_more (by omega) hE (by rw [hT]; exact h.kk)
  have hQ : oneQ t.x 0 = t.x.size := by unfold oneQ; rw [hp, hT]; show 0 + t.x.size = _; omega
  have hz : oneP t.x t.x.size = t.x.size := by have := oneP_le t.x t.x.size (Nat.le_refl _); unfold oneP at this ⊢; omega
  obtain ⟨z1, z2⟩ := oneP_end hz
  rw [b4, hT, hQ, beg_end z1 (by rw [z2]), z2]
theorem alone_end : begO ⟨#[]⟩ 0 = ([⟨0, ⟨#[]⟩, 0, 0, 0⟩], 0, 0) := by
  have hz : oneP ⟨#[]⟩ 0 = (⟨#[]⟩ : ByteArray).size := rfl
  obtain ⟨z1, z2⟩ := oneP_end hz
  rw [beg_end z1 (by rw [z2]), z2]
  rfl
/-- The gap ahead of a token. -/
theorem gap_free {s : ByteArray} {f : Nat} : ov (s.extract f (oneP s f)).data.toList false = (s.extract f (oneP s f)).size := by
  have e : (s.extract f (oneP s f)).data.toList = (rest s f).take (ov (rest s f) false) := by unfold oneP; exact ext_list _ _ _
  rw [← len_of, e, ov_take, List.length_take]
  have := ov_le (rest s f) false
  omega

/-! two texts with a line's end between -/
def shf (n : Nat) (t : Tk) : Tk := ⟨t.k, t.x, t.ty, t.n, t.p + n⟩
theorem tkOf_shf (l : List UInt8) (d n : Nat) (h : lxE l = 0) : tkOf l (n + d) = shf n (tkOf l d) := by
  obtain ⟨k, m, ty, v, h1, h2⟩ := lx_nil_k (d := d) h
  obtain ⟨k', m', ty', v', h1', h2'⟩ := lx_nil_k (d := n + d) h
  rw [h1] at h1'
  simp only [Option.some.injEq, Prod.mk.injEq] at h1'
  obtain ⟨rfl, rfl, rfl, rfl⟩ := h1'
  rw [h2, h2']
  unfold shf
  simp; omega
theorem beg_shift {b z : ByteArray} {n : Nat} (hz : z.size = n + b.size) (hr : ∀ g, rest z (n + g) = rest b g) : ∀ (d g : Nat), b.size - g ≤ d → g ≤ b.size →
    begO z (n + g) = ((begO b g).1.map (shf n), (begO b g).2.1, if (begO b g).2.1 = 0 then (begO b g).2.2 else (begO b g).2.2 + n) := by
  have hp : ∀ g, oneP z (n + g) = n + oneP b g := fun g => by unfold oneP; rw [hr]; omega
  intro d
  induction d with
  | zero =>
    intro g hd hg
    have hP : oneP b g = b.size := by have := oneP_le b g hg; unfold oneP at this ⊢; omega
    obtain ⟨a, t⟩ := oneP_end hP
    obtain ⟨a', t'⟩ := oneP_end (s := z) (f := n + g) (by rw [hp, hP, hz])
    rw [beg_end a (by rw [t]), beg_end a' (by rw [t']), t, t', hz]
    simp [shf]; omega
  | succ d ih =>
    intro g hd hg
    have hg' : n + g ≤ z.size := by omega
    by_cases hP : oneP b g = b.size
    · obtain ⟨a, t⟩ := oneP_end hP
      obtain ⟨a', t'⟩ := oneP_end (s := z) (f := n + g) (by rw [hp, hP, hz])
      rw [beg_end a (by rw [t]), beg_end a' (by rw [t']), t, t', hz]
      simp [shf]; omega
    · have hP' : oneP z (n + g) ≠ z.size := by rw [hp, hz]; omega
      obtain ⟨u1, u2⟩ := one_lx b g hg hP
      obtain ⟨v1, v2⟩ := one_lx z (n + g) hg' hP'
      rw [hp, hr] at v1 v2
      have hE : oneE z (n + g) = oneE b g := by rw [u2, v2]
      by_cases hb : oneE b g = 0
      · have hT : oneT z (n + g) = shf n (oneT b g) := by rw [v1, u1]; exact tkOf_shf _ _ _ (by rw [← u2]; exact hb)
        have hk := (one_good hg hb hP).1.kk
        obtain ⟨b1, b2, b3, b4⟩ := beg_more hg hb hk
        obtain ⟨c1, c2, c3, c4⟩ := beg_more hg' (by rw [hE]; exact hb) (by rw [hT]; exact hk)
        have hQ : oneQ z (n + g) = n + oneQ b g := by unfold oneQ; rw [hp, hT]; show n + oneP b g + (oneT b g).x.size = _; omega
        rw [c4, b4, hQ, ih (oneQ b g) (by omega) b2, hT]
        rfl
      · rw [beg_bad hb, beg_bad (by rw [hE]; exact hb)]
        have : oneB z (n + g) = oneB b g + n := by unfold oneB; rw [hE, if_neg hb, if_neg hb, hp]; omega
        simp [hE, hb, this]
theorem last_end {s : ByteArray} {f : Nat} {L : List Tk} (h : Chain s f L) : ∃ K, L = K ++ [⟨0, ⟨#[]⟩, 0, 0, s.size⟩] := by
  induction h with
  | fin f h1 h2 => exact ⟨[], rfl⟩
  | more f p t L hg hp h1 h2 h3 h4 h5 ih => obtain ⟨K, rfl⟩ := ih; exact ⟨t :: K, rfl⟩
/-- Two texts with a line's end between. -/
theorem joined {a b z : ByteArray} (hz : z.data.toList = a.data.toList ++ 10 :: b.data.toList) : ∀ (d f : Nat), a.size - f ≤ d → f ≤ a.size →
    ((begO a f).2.1 ≠ 0 → (begO z f).2.1 = (begO a f).2.1) ∧ ((begO a f).2.1 = 0 → begO z f = ((begO a f).1.dropLast ++ (begO z (a.size + 1)).1, (begO z (a.size + 1)).2)) := by
  have hs : z.size = a.size + (1 + b.size) := by rw [← len_of, hz, List.length_append, List.length_cons, len_of, len_of]; omega
  have hr : ∀ f, f ≤ a.size → rest z f = rest a f ++ 10 :: b.data.toList := fun f hf => by
    unfold rest
    rw [hz, List.drop_append_of_le_length (by rw [len_of]; exact hf)]
  have hfin : ∀ f, f ≤ a.size → oneP a f = a.size → oneP z f = oneP z (a.size + 1) := fun f hf h => by
    have h1 : ov (rest a f) false = (rest a f).length := by rw [rest_len]; unfold oneP at h; omega
    have h2 := ov_all _ (10 :: b.data.toList) false h1
    have h3 : ov (10 :: b.data.toList) ((rest a f).foldl remB false) = ov b.data.toList false + 1 := by
      rw [ov_go (by simp [blankB])]
      have : remB ((rest a f).foldl remB false) 10 = false := by simp [remB]
      rw [this]
    have h4 : rest z (a.size + 1) = b.data.toList := by
      unfold rest
      rw [hz, ← len_of a, List.drop_append, List.drop_eq_nil_of_le (by omega)]
      simp
    unfold oneP
    rw [hr f hf, h2, h3, h4, rest_len]
    omega
  have stop10 : stopB 10 = true := by decide
  intro d
  induction d with
  | zero =>
    intro f hd hf
    have hP : oneP a f = a.size := by have := oneP_le a f hf; unfold oneP at this ⊢; omega
    obtain ⟨e, t⟩ := oneP_end hP
    rw [beg_end e (by rw [t]), t]
    refine ⟨fun h => absurd rfl h, fun _ => ?_⟩
    rw [begP (by omega) (by omega) (hfin f hf hP)]
    rfl
  | succ d ih =>
    intro f hd hf
    by_cases hP : oneP a f = a.size
    · obtain ⟨e, t⟩ := oneP_end hP
      rw [beg_end e (by rw [t]), t]
      refine ⟨fun h => absurd rfl h, fun _ => ?_⟩
      rw [begP (by omega) (by omega) (hfin f hf hP)]
      rfl
    · have hPl := oneP_le a f hf
      have hPz : oneP z f = oneP a f := by
        unfold oneP
        rw [hr f hf, ov_lt _ _ _ (by rw [rest_len]; unfold oneP at hP hPl; omega)]
      obtain ⟨u1, u2⟩ := one_lx a f hf hP
      obtain ⟨v1, v2⟩ := one_lx z f (by omega) (by rw [hPz]; omega)
      rw [hPz, hr _ hPl] at v1 v2
      have hne : rest a (oneP a f) ≠ [] := by intro h; have := rest_len a (oneP a f); rw [h] at this; simp at this; omega
      rw [lxE_stop stop10 _ hne, ← u2] at v2
      by_cases hb : oneE a f = 0
      · obtain ⟨k, n, ty, v, h1, h2⟩ := lx_nil_k (d := oneP a f) (u2 ▸ hb : lxE (rest a (oneP a f)) = 0)
        have hT : oneT z f = oneT a f := by
          rw [v1, u1, h2]
          unfold tkOf
          rw [lx_stop stop10 _ hne, h1]
          simp only
          rw [List.take_append_of_le_length (lx_len h1).2.1]
        have hk := (one_good hf hb hP).1.kk
        obtain ⟨b1, b2, b3, b4⟩ := beg_more hf hb hk
        obtain ⟨c1, c2, c3, c4⟩ := beg_more (by omega : f ≤ z.size) (by rw [v2]; exact hb) (by rw [hT]; exact hk)
        have hQ : oneQ z f = oneQ a f := by unfold oneQ; rw [hPz, hT]
        obtain ⟨i1, i2⟩ := ih (oneQ a f) (by omega) b2
        rw [c4, b4, hQ, hT]
        refine ⟨i1, fun h => ?_⟩
        rw [i2 h]
        have hl := (beg_chain _ _ (Nat.le_refl _) b2 h).1.len
        have : (oneT a f :: (begO a (oneQ a f)).1).dropLast = oneT a f :: (begO a (oneQ a f)).1.dropLast := by
          rw [List.dropLast_cons_of_ne_nil (List.length_pos_iff.1 hl)]
        rw [this]; rfl
      · rw [beg_bad hb, beg_bad (by rw [v2]; exact hb)]
        exact ⟨fun _ => v2, fun h => absurd h hb⟩

/-! other gaps -/
/-- What may stand between: all of it blanks and remarks, the last of them ended; it begins with what ends a token. -/
structure Gap (g : List UInt8) : Prop where
  ov0 : ov g false = g.length
  rem : g.foldl remB false = false
  hd : ∃ c m, g = c :: m ∧ stopB c = true
def sameK (a b : Tk) : Prop := a.k = b.k ∧ a.x = b.x ∧ a.ty = b.ty ∧ a.n = b.n
def outL : List (Tk × List UInt8) → List UInt8
  | [] => []
  | (t, g) :: l => t.x.data.toList ++ (g ++ outL l)
inductive Fine : List (Tk × List UInt8) → Prop
  | fin (t : Tk) (g : List UInt8) (h : t.k = 0 ∧ t.x = ⟨#[]⟩ ∧ t.ty = 0 ∧ t.n = 0) (hg : Gap g) : Fine [(t, g)]
  | more (t : Tk) (g : List UInt8) (l : List (Tk × List UInt8)) (h : Good t) (hg : Gap g) (hl : Fine l) : Fine ((t, g) :: l)
theorem rest_app {z : ByteArray} {pre m : List UInt8} (h : z.data.toList = pre ++ m) : rest z pre.length = m := by
  unfold rest; rw [h]; simp
theorem spaced : ∀ (l : List (Tk × List UInt8)), Fine l → ∀ (z : ByteArray) (pre gap : List UInt8), ov gap false = gap.length → gap.foldl remB false = false → z.data.toList = pre ++ (gap ++ outL l) →
    (begO z pre.length).2.1 = 0 ∧ (begO z pre.length).1.length = l.length ∧ ∀ j, (h : j < l.length) → sameK ((begO z pre.length).1.getD j tk0) l[j].1 := by
  intro l hl
  induction hl with
  | fin t g h hg =>
    intro z pre gap g1 g2 hz
    obtain ⟨h1, h2, h3, h4⟩ := h
    have hsz : z.size = pre.length + (gap.length + g.length) := by rw [← len_of, hz]; simp [outL, h2]
    have hp : oneP z pre.length = z.size := by
      unfold oneP
      rw [rest_app hz, ov_all _ _ _ g1, g2]
      have : outL [(t, g)] = g ++ [] := by simp [outL, h2]
      rw [this, ov_all _ _ _ hg.ov0]
      simp [ov]; omega
    obtain ⟨a, b⟩ := oneP_end hp
    rw [beg_end a (by rw [b]), b]
    refine ⟨rfl, rfl, fun j hj => ?_⟩
    obtain rfl : j = 0 := by simp at hj; omega
    exact ⟨h1.symm, h2.symm, h3.symm, h4.symm⟩
  | more t g l h hg hl ih =>
    intro z pre gap g1 g2 hz
    obtain ⟨c, m, hc, hs⟩ := hg.hd
    have hlen : z.size = pre.length + (gap.length + (t.x.size + (g.length + (outL l).length))) := by
      rw [← len_of, hz]; simp [outL]
    have hne := h.ne
    have hp : oneP z pre.length = pre.length + gap.length := by
      unfold oneP
      rw [rest_app hz, ov_all _ _ _ g1, g2]
      show _ + (_ + ov (t.x.data.toList ++ (g ++ outL l)) false) = _
      rw [ov_lt _ _ _ (by rw [h.bl, len_of]; exact hne), h.bl]
      omega
    have hpl : pre.length ≤ z.size := by omega
    have hpe : oneP z pre.length ≠ z.size := by rw [hp, hlen]; omega
    obtain ⟨u1, u2⟩ := one_lx z pre.length hpl hpe
    have hR : rest z (pre.length + gap.length) = t.x.data.toList ++ c :: (m ++ outL l) := by
      rw [← List.length_append]
      refine rest_app ?_
      rw [hz]
      show pre ++ (gap ++ (t.x.data.toList ++ (g ++ outL l))) = _
      rw [hc]; simp
    have hxe : t.x.data.toList ≠ [] := by intro e; have := len_of t.x; rw [e] at this; simp at this; omega
    rw [hp, hR] at u1 u2
    have hE : oneE z pre.length = 0 := by rw [u2, lxE_stop hs _ hxe]; unfold lxE; rw [h.lk]; rfl
    have hT : oneT z pre.length = ⟨t.k, t.x, t.ty, t.n, (pre.length + gap.length : Nat)⟩ := by
      rw [u1]; unfold tkOf; rw [lx_stop hs _ hxe, h.lk]
      show (⟨t.k, arr _, t.ty, t.n, _⟩ : Tk) = _
      have : arr ((t.x.data.toList ++ c :: (m ++ outL l)).take t.x.size) = t.x := str_eq (by rw [arr_list, List.take_append_of_le_length (by rw [len_of]; omega), List.take_of_length_le (by rw [len_of]; omega)])
      rw [this]
    obtain ⟨b1, b2, b3, b4⟩ := beg_more hpl hE (by rw [hT]; exact h.kk)
    have hQ : oneQ z pre.length = (pre ++ (gap ++ t.x.data.toList)).length := by
      unfold oneQ; rw [hp, hT]; simp; omega
    obtain ⟨i1, i2, i3⟩ := ih z (pre ++ (gap ++ t.x.data.toList)) g hg.ov0 hg.rem (by rw [hz]; simp [outL])
    rw [b4, hQ]
    refine ⟨i1, by rw [List.length_cons, List.length_cons, i2], fun j hj => ?_⟩
    rcases j with _ | j
    · rw [hT]; exact ⟨rfl, rfl, rfl, rfl⟩
    · exact i3 j (by simpa using hj)
end Go.Proofs.YtkfabnchhjfjjabGreatDoor

/-
  Plain: the answers for two texts with a line's end between.
-/
namespace Go.Proofs.YtkfabnchhjfjjabGreatDoor
open Go.RowKit

def jn (a b : ByteArray) : ByteArray := a ++ (⟨#[10]⟩ : ByteArray) ++ b
theorem jn_list (a b : ByteArray) : (jn a b).data.toList = a.data.toList ++ 10 :: b.data.toList := by
  unfold jn; simp
theorem jn_size (a b : ByteArray) : (jn a b).size = a.size + 1 + b.size := by
  rw [← len_of, jn_list, List.length_append, List.length_cons, len_of, len_of]; omega
theorem jn_rest (a b : ByteArray) (g : Nat) : rest (jn a b) (a.size + 1 + g) = rest b g := by
  unfold rest
  rw [jn_list, ← len_of a, List.drop_append, List.drop_eq_nil_of_le (by omega), List.nil_append,
    show a.data.toList.length + 1 + g - a.data.toList.length = g + 1 by omega, List.drop_succ_cons]
theorem tks_short' {s : ByteArray} (h : ¬ s.size > 4096) : tksE s = (begO s 0).2.1 ∧ (tksE s = 0 → tksL s = (begO s 0).1) ∧ (tksE s ≠ 0 → tksB s = (begO s 0).2.2) := by
  obtain ⟨a, b, c⟩ := tks_short h (show begO s 0 = ((begO s 0).1, (begO s 0).2.1, (begO s 0).2.2) from rfl)
  exact ⟨a, fun e => (b (a ▸ e)).2, fun e => (c (a ▸ e)).1⟩
theorem jn_all {a b : ByteArray} (h : a.size + b.size ≤ 4095) :
    (tksE a ≠ 0 → tksE (jn a b) = tksE a) ∧
    (tksE a = 0 → tksE b ≠ 0 → tksE (jn a b) = tksE b ∧ tksB (jn a b) = tksB b + (a.size + 1 : Nat)) ∧
    (tksE a = 0 → tksE b = 0 → tksE (jn a b) = 0 ∧ tksL (jn a b) = (tksL a).dropLast ++ (tksL b).map (shf (a.size + 1))) := by
  have hz := jn_size a b
  obtain ⟨a1, a2, a3⟩ := tks_short' (s := a) (by omega)
  obtain ⟨b1, b2, b3⟩ := tks_short' (s := b) (by omega)
  obtain ⟨z1, z2, z3⟩ := tks_short' (s := jn a b) (by omega)
  obtain ⟨j1, j2⟩ := joined (jn_list a b) a.size 0 (by omega) (by omega)
  have hs := beg_shift (b := b) (z := jn a b) (n := a.size + 1) hz (jn_rest a b) b.size 0 (by omega) (by omega)
  rw [Nat.add_zero] at hs
  refine ⟨fun e => ?_, fun e f => ?_, fun e f => ?_⟩
  · rw [z1, a1]; exact j1 (by rw [← a1]; exact e)
  · have hj := j2 (by rw [← a1]; exact e)
    have hE : tksE (jn a b) = tksE b := by rw [z1, hj, hs, b1]
    refine ⟨hE, ?_⟩
    rw [z3 (by rw [hE]; exact f), hj, hs, b3 f, b1] at *
    simp only
    rw [if_neg f]
  · have hj := j2 (by rw [← a1]; exact e)
    have hE : tksE (jn a b) = 0 := by rw [z1, hj, hs, ← f, b1]
    refine ⟨hE, ?_⟩
    rw [z2 hE, hj, hs, a2 e, b2 f]
theorem tks_len {s : ByteArray} (h : tksE s = 0) : 0 < (tksL s).length ∧ (tksL s).length ≤ 4097 ∧ s.size ≤ 4096 ∧ Chain s 0 (tksL s) := by
  have hs : ¬ s.size > 4096 := fun hl => by rw [(tks_long hl).1] at h; exact absurd h (by decide)
  obtain ⟨a1, a2, _⟩ := tks_short' hs
  have hc := (beg_chain (s := s) s.size 0 (by omega) (by omega) (by rw [← a1]; exact h)).1
  rw [← a2 h] at hc
  have hle : ∀ (f : Nat) (L : List Tk), Chain s f L → L.length ≤ s.size - f + 1 := by
    intro f L hc
    induction hc with
    | fin f h1 h2 => simp
    | more f p t L hg hp h1 h2 h3 h4 h5 ih => have := hg.ne; simp only [List.length_cons]; omega
  have := hle _ _ hc
  exact ⟨hc.len, by omega, by omega, hc⟩
theorem lsF_app (K M : List Tk) (i : Nat) : lsF (K ++ M) i = if i < K.length then lsF K i else lsF M (i - K.length) := by
  unfold lsF
  split
  · rename_i h; simp [List.getD, List.getElem?_append_left h]
  · rename_i h; simp [List.getD, List.getElem?_append_right (Nat.le_of_not_lt h)]
theorem lsF_map (f : Tk → Tk) (M : List Tk) (i : Nat) (h : i < M.length) : lsF (M.map f) i = f (lsF M i) := by
  unfold lsF; simp [List.getD, h]
theorem lsF_drop (K : List Tk) (i : Nat) (h : i < K.length - 1) : lsF K.dropLast i = lsF K i := by
  unfold lsF
  simp [List.getD, h, show i < K.length by omega]
/-- Where the place of a token may lie. -/
theorem chain_p {s : ByteArray} {f : Nat} {L : List Tk} (h : Chain s f L) : ∀ t ∈ L, 0 ≤ t.p ∧ t.p + t.x.size ≤ s.size := by
  induction h with
  | fin f h1 h2 =>
    intro t ht
    obtain rfl := List.mem_singleton.1 ht
    exact ⟨(show (0 : Int) ≤ (s.size : Int) by omega), (show (s.size : Int) + (0 : Nat) ≤ (s.size : Int) by omega)⟩
  | more f p t L hg hp h1 h2 h3 h4 h5 ih =>
    intro u hu
    rw [List.mem_cons] at hu
    rcases hu with rfl | hu
    · rw [hp]; omega
    · exact ih u hu
theorem lsF_mem {L : List Tk} {i : Nat} (h : i < L.length) : lsF L i ∈ L := by
  unfold lsF
  rw [List.getD_eq_getElem?_getD, List.getElem?_eq_getElem h]
  exact List.getElem_mem h
theorem begB_le {s : ByteArray} : ∀ (d f : Nat), s.size - f ≤ d → f ≤ s.size → 0 ≤ (begO s f).2.2 ∧ (begO s f).2.2 ≤ s.size := by
  have hB : ∀ f, f ≤ s.size → 0 ≤ oneB s f ∧ oneB s f ≤ s.size := fun f hf => by
    have := oneP_le s f hf
    unfold oneB
    split <;> omega
  intro d
  induction d with
  | zero =>
    intro f hd hf
    by_cases hE : oneE s f = 0
    · by_cases hk : (oneT s f).k = 0
      · rw [beg_end hE hk]; exact ⟨Int.le_refl _, (show (0 : Int) ≤ s.size by omega)⟩
      · have := beg_more hf hE hk; omega
    · rw [beg_bad hE]; exact hB f hf
  | succ d ih =>
    intro f hd hf
    by_cases hE : oneE s f = 0
    · by_cases hk : (oneT s f).k = 0
      · rw [beg_end hE hk]; exact ⟨Int.le_refl _, (show (0 : Int) ≤ s.size by omega)⟩
      · obtain ⟨b1, b2, _, b4⟩ := beg_more hf hE hk
        rw [b4]; exact ih _ (by omega) b2
    · rw [beg_bad hE]; exact hB f hf
theorem tksB_le (s : ByteArray) : 0 ≤ tksB s ∧ tksB s ≤ s.size := by
  unfold tksB
  split
  · exact ⟨Int.le_refl _, by omega⟩
  · split
    · exact ⟨Int.le_refl _, by omega⟩
    · exact begB_le _ 0 (Nat.le_refl _) (by omega)
end Go.Proofs.YtkfabnchhjfjjabGreatDoor

/-
  Plain: the tokens that All goes through.
-/
namespace Go.Proofs.YtkfabnchhjfjjabGreatDoor
open Go.RowKit

/-- The tokens from a place on, ahead of the end, or of what is wrong. -/
def allF (s : ByteArray) (f : Nat) : List Tk := if (begO s f).2.1 = 0 then (begO s f).1.dropLast else (begO s f).1
def allL (s : ByteArray) : List Tk := if s.size > 4096 then [] else allF s 0
theorem all_bad {s : ByteArray} {f : Nat} (h : oneE s f ≠ 0) : allF s f = [] := by unfold allF; rw [beg_bad h]; simp [h]
theorem all_end {s : ByteArray} {f : Nat} (h : oneE s f = 0) (hk : (oneT s f).k = 0) : allF s f = [] := by unfold allF; rw [beg_end h hk]; simp
theorem all_more {s : ByteArray} {f : Nat} (hf : f ≤ s.size) (h : oneE s f = 0) (hk : ¬ (oneT s f).k = 0) : f < oneQ s f ∧ oneQ s f ≤ s.size ∧ (oneT s f).p + ((oneT s f).x.size : Int) = (oneQ s f : Nat) ∧ allF s f = oneT s f :: allF s (oneQ s f) := by
  obtain ⟨b1, b2, b3, b4⟩ := beg_more hf h hk
  refine ⟨b1, b2, b3, ?_⟩
  unfold allF
  rw [b4]
  simp only
  by_cases e : (begO s (oneQ s f)).2.1 = 0
  · rw [if_pos e, if_pos e]
    have hl := (beg_chain _ _ (Nat.le_refl _) b2 e).1.len
    rw [List.dropLast_cons_of_ne_nil (List.length_pos_iff.1 hl)]
  · rw [if_neg e, if_neg e]
theorem beg_kinds {s : ByteArray} : ∀ (d f : Nat), s.size - f ≤ d → f ≤ s.size → (begO s f).2.1 ≠ 0 → ∀ t ∈ (begO s f).1, t.k ≠ 0 := by
  intro d
  induction d with
  | zero =>
    intro f hd hf h t ht
    by_cases hE : oneE s f = 0
    · by_cases hk : (oneT s f).k = 0
      · rw [beg_end hE hk] at h; exact absurd rfl h
      · have := beg_more hf hE hk; omega
    · rw [beg_bad hE] at ht; simp at ht
  | succ d ih =>
    intro f hd hf h t ht
    by_cases hE : oneE s f = 0
    · by_cases hk : (oneT s f).k = 0
      · rw [beg_end hE hk] at h; exact absurd rfl h
      · obtain ⟨b1, b2, _, b4⟩ := beg_more hf hE hk
        rw [b4] at h ht
        rw [List.mem_cons] at ht
        rcases ht with rfl | ht
        · exact hk
        · exact ih _ (by omega) b2 h t ht
    · rw [beg_bad hE] at ht; simp at ht
/-- What the statement makes of the document's list. -/
theorem all_want (s : ByteArray) : ((begO s 0).1 = [] ∧ allF s 0 = []) ∨ (0 < (begO s 0).1.length ∧ (lsF (begO s 0).1 ((begO s 0).1.length - 1)).k = 0 ∧ allF s 0 = (begO s 0).1.dropLast) ∨ (0 < (begO s 0).1.length ∧ (lsF (begO s 0).1 ((begO s 0).1.length - 1)).k ≠ 0 ∧ allF s 0 = (begO s 0).1) := by
  by_cases e : (begO s 0).2.1 = 0
  · have hc := (beg_chain (s := s) s.size 0 (by omega) (by omega) e).1
    refine .inr (.inl ⟨hc.len, ?_, by unfold allF; rw [if_pos e]⟩)
    obtain ⟨K, hK⟩ := last_end hc
    rw [hK]
    unfold lsF
    simp
  · by_cases hl : (begO s 0).1 = []
    · exact .inl ⟨hl, by unfold allF; rw [if_neg e, hl]⟩
    · have hp := List.length_pos_iff.2 hl
      refine .inr (.inr ⟨hp, beg_kinds _ 0 (Nat.le_refl _) (by omega) e _ (lsF_mem (by omega)), by unfold allF; rw [if_neg e]⟩)
theorem beg_len {s : ByteArray} : ∀ (d f : Nat), s.size - f ≤ d → f ≤ s.size → (begO s f).1.length ≤ s.size - f + 1 := by
  intro d
  induction d with
  | zero =>
    intro f hd hf
    by_cases hE : oneE s f = 0
    · by_cases hk : (oneT s f).k = 0
      · rw [beg_end hE hk]; simp
      · have := beg_more hf hE hk; omega
    · rw [beg_bad hE]; simp
  | succ d ih =>
    intro f hd hf
    by_cases hE : oneE s f = 0
    · by_cases hk : (oneT s f).k = 0
      · rw [beg_end hE hk]; simp
      · obtain ⟨b1, b2, _, b4⟩ := beg_more hf hE hk
        rw [b4]
        have := ih _ (by omega) b2
        simp only [List.length_cons]
        omega
    · rw [beg_bad hE]; simp
theorem allL_len (s : ByteArray) : (allL s).length ≤ s.size := by
  unfold allL
  split
  · simp
  · have h := beg_len (s := s) s.size 0 (by omega) (by omega)
    rcases all_want s with ⟨h1, h2⟩ | ⟨h1, h2, h3⟩ | ⟨h1, h2, h3⟩
    · rw [h2]; simp
    · rw [h3, List.length_dropLast]; omega
    · rw [h3]
      by_cases e : (begO s 0).2.1 = 0
      · exfalso
        have hc := (beg_chain (s := s) s.size 0 (by omega) (by omega) e).1
        obtain ⟨K, hK⟩ := last_end hc
        rw [hK] at h2
        unfold lsF at h2
        simp at h2
      · have hb : ∀ (d f : Nat), s.size - f ≤ d → f ≤ s.size → (begO s f).2.1 ≠ 0 → (begO s f).1.length ≤ s.size - f := by
          intro d
          induction d with
          | zero =>
            intro f hd hf he
            by_cases hE : oneE s f = 0
            · by_cases hk : (oneT s f).k = 0
              · rw [beg_end hE hk] at he; exact absurd rfl he
              · have := beg_more hf hE hk; omega
            · rw [beg_bad hE]; simp
          | succ d ih =>
            intro f hd hf he
            by_cases hE : oneE s f = 0
            · by_cases hk : (oneT s f).k = 0
              · rw [beg_end hE hk] at he; exact absurd rfl he
              · obtain ⟨b1, b2, _, b4⟩ := beg_more hf hE hk
                rw [b4] at he ⊢
                have := ih _ (by omega) b2 he
                simp only [List.length_cons]
                omega
            · rw [beg_bad hE]; simp
        have := hb s.size 0 (by omega) (by omega) e
        omega
end Go.Proofs.YtkfabnchhjfjjabGreatDoor
