import Derived.Test.YteedmmljahgpjabDoorM24
import Derived.Test.YteedmmljahgpjabDoorM12
import Derived.Test.YteedmmljahgpjabDoorM16
import Derived.Test.YteedmmljahgpjabDoorM21
/-
  Heights ahead are noughts: the checker's answer span by span.
-/
namespace Go.Proofs.YteedmmljahgpjabDoor
open Go.RowKit
set_option linter.unusedVariables false
set_option linter.unusedSimpArgs false
/-- The same from a place on. -/
def Agr (a : Nat) (h h' : Nat → Int) : Prop := ∀ j, a ≤ j → h j = h' j
def Zr (b : Nat) (h : Nat → Int) : Prop := ∀ j, b < j → h j = 0
theorem Agr.mono {a b : Nat} {h h' : Nat → Int} (k : Agr a h h') (hab : a ≤ b) : Agr b h h' := fun j hj => k j (Nat.le_trans hab hj)
theorem Agr.upd {a : Nat} {h h' : Nat → Int} (k : Agr a h h') (p : Nat) (x : Int) : Agr a (upd h p x) (upd h' p x) := fun j hj => by
  unfold Go.Proofs.YteedmmljahgpjabDoor.upd
  split
  · rfl
  · exact k j hj
theorem Agr.comeB {a : Nat} {h h' : Nat → Int} (k : Agr a h h') {p : Nat} (hp : a ≤ p) (x : Int) : comeB h p x = comeB h' p x := by
  unfold Go.Proofs.YteedmmljahgpjabDoor.comeB; rw [k p hp]
theorem Agr.comeH {a : Nat} {h h' : Nat → Int} (k : Agr a h h') (p : Nat) (x : Int) : Agr a (comeH h p x) (comeH h' p x) := by
  unfold Go.Proofs.YteedmmljahgpjabDoor.comeH
  split
  · exact k.upd p _
  · exact k
theorem Agr.and2 {a : Nat} {h h' : Nat → Int} (k : Agr a h h') {p q : Nat} (hp : a ≤ p) (hq : a ≤ q) (x y : Int) : (and2 h p x q y).1 = (and2 h' p x q y).1 ∧ Agr a (and2 h p x q y).2 (and2 h' p x q y).2 := by
  unfold Go.Proofs.YteedmmljahgpjabDoor.and2
  rw [k.comeB hp x]
  split
  · exact ⟨(k.comeH p x).comeB hq y, (k.comeH p x).comeH q y⟩
  · exact ⟨rfl, k.comeH p x⟩
theorem Zr.comeH {b : Nat} {h : Nat → Int} (k : Zr b h) {p : Nat} (hp : p ≤ b) (x : Int) : Zr b (comeH h p x) := by
  unfold Go.Proofs.YteedmmljahgpjabDoor.comeH
  split
  · intro j hj
    unfold Go.Proofs.YteedmmljahgpjabDoor.upd
    rw [if_neg (by omega)]
    exact k j hj
  · exact k
theorem Zr.and2 {b : Nat} {h : Nat → Int} (k : Zr b h) {p q : Nat} (hp : p ≤ b) (hq : q ≤ b) (x y : Int) : Zr b (and2 h p x q y).2 := by
  unfold Go.Proofs.YteedmmljahgpjabDoor.and2
  split
  · exact (k.comeH hp x).comeH hq y
  · exact k.comeH hp x
def Jmp (d : InM) (a b : Nat) : Prop := (d.k = 6 ∨ d.k = 7 ∨ d.k = 8 ∨ d.k = 9) → a + 1 ≤ d.a.toNat ∧ d.a.toNat ≤ b
theorem jmp_of {t : TbM} {d : InM} {a b : Nat} (h : standB t d a b = true) : Jmp d a b := fun e => by
  have hwb : withinB ((a : Int) + 1) d.a (b : Int) = true := by
    unfold standB at h
    rcases e with e | e | e | e <;> simpa [e] using h
  unfold withinB at hwb
  simp at hwb
  omega
theorem goF_agr {a b : Nat} {h h' : Nat → Int} {d : InM} {x : Int} (k : Agr (a + 1) h h') (j : Jmp d a b) : (goF h d a x).1 = (goF h' d a x).1 ∧ Agr (a + 1) (goF h d a x).2 (goF h' d a x).2 := by
  unfold goF
  cases e5 : (d.k == 5) with
  | true =>
    simp only [if_true]
    split
    · split
      · exact ⟨k.comeB (Nat.le_refl _) _, k.comeH _ _⟩
      · exact ⟨rfl, k⟩
    · split
      · exact ⟨k.comeB (Nat.le_refl _) _, k.comeH _ _⟩
      · exact ⟨rfl, k⟩
  | false =>
    simp only [Bool.false_eq_true, if_false]
    cases e6 : (d.k == 6) with
    | true =>
      simp only [if_true]
      exact k.and2 (j (.inl (by simpa using e6))).1 (Nat.le_refl _) _ _
    | false =>
      simp only [Bool.false_eq_true, if_false]
      cases e7 : (d.k == 7) with
      | true =>
        simp only [if_true]
        exact k.and2 (j (.inr (.inl (by simpa using e7)))).1 (Nat.le_refl _) _ _
      | false =>
        simp only [Bool.false_eq_true, if_false]
        cases e8 : (d.k == 8) with
        | true =>
          simp only [if_true]
          exact k.and2 (j (.inr (.inr (.inl (by simpa using e8))))).1 (Nat.le_refl _) _ _
        | false =>
          simp only [Bool.false_eq_true, if_false]
          cases e9 : (d.k == 9) with
          | true =>
            simp only [if_true]
            exact ⟨k.comeB (j (.inr (.inr (.inr (by simpa using e9))))).1 _, k.comeH _ _⟩
          | false =>
            simp only [Bool.false_eq_true, if_false]
            exact ⟨k.comeB (Nat.le_refl _) _, k.comeH _ _⟩
theorem goF_zr {a b : Nat} {h : Nat → Int} {d : InM} {x : Int} (k : Zr b h) (hab : a + 1 ≤ b) (j : Jmp d a b) : Zr b (goF h d a x).2 := by
  unfold goF
  cases e5 : (d.k == 5) with
  | true =>
    simp only [if_true]
    split
    · split
      · exact k.comeH hab _
      · exact k
    · split
      · exact k.comeH hab _
      · exact k
  | false =>
    simp only [Bool.false_eq_true, if_false]
    cases e6 : (d.k == 6) with
    | true =>
      simp only [if_true]
      exact k.and2 (j (.inl (by simpa using e6))).2 hab _ _
    | false =>
      simp only [Bool.false_eq_true, if_false]
      cases e7 : (d.k == 7) with
      | true =>
        simp only [if_true]
        exact k.and2 (j (.inr (.inl (by simpa using e7)))).2 hab _ _
      | false =>
        simp only [Bool.false_eq_true, if_false]
        cases e8 : (d.k == 8) with
        | true =>
          simp only [if_true]
          exact k.and2 (j (.inr (.inr (.inl (by simpa using e8))))).2 hab _ _
        | false =>
          simp only [Bool.false_eq_true, if_false]
          cases e9 : (d.k == 9) with
          | true =>
            simp only [if_true]
            exact k.comeH (j (.inr (.inr (.inr (by simpa using e9))))).2 _
          | false =>
            simp only [Bool.false_eq_true, if_false]
            exact k.comeH hab _
theorem fitsL_agr {ds : List InM} {b : Nat} : ∀ (n a : Nat) (h h' : Nat → Int), a + n = b → (∀ j, a ≤ j → j < b → Jmp (ds.getD j ⟨0, 0⟩) j b) → Agr a h h' → (fitsL ds n a h).1 = (fitsL ds n a h').1
  | 0, a, h, h', _, _, k => by simp only [fitsL]; rw [k a (Nat.le_refl _)]
  | n + 1, a, h, h', e, j, k => by
    simp only [fitsL]
    rw [k a (Nat.le_refl _)]
    split
    · rfl
    · obtain ⟨g1, g2⟩ := goF_agr (x := h' a - 1) (k.mono (Nat.le_succ a)) (j a (Nat.le_refl _) (by omega))
      rw [g1]
      split
      · exact fitsL_agr n (a + 1) _ _ (by omega) (fun i h1 h2 => j i (by omega) h2) g2
      · rfl
theorem fitsL_zr {ds : List InM} {b : Nat} : ∀ (n a : Nat) (h : Nat → Int), a + n = b → (∀ j, a ≤ j → j < b → Jmp (ds.getD j ⟨0, 0⟩) j b) → Zr b h → Zr b (fitsL ds n a h).2
  | 0, a, h, _, _, k => k
  | n + 1, a, h, e, j, k => by
    simp only [fitsL]
    split
    · exact k
    · have hz := goF_zr (x := h a - 1) k (by omega) (j a (Nat.le_refl _) (by omega))
      split
      · exact fitsL_zr n (a + 1) _ (by omega) (fun i h1 h2 => j i (by omega) h2) hz
      · exact hz
theorem span_agr {t : TbM} {h : Nat → Int} {f b : Nat} (hfb : f < b) (k : Zr f h) : (spanE t h f b).1 = (spanE t (fun _ => 0) f b).1 ∧ Zr b (spanE t h f b).2 := by
  unfold spanE
  cases hs : standsL t b (b - f) f with
  | false => exact ⟨rfl, fun j hj => k j (by omega)⟩
  | true =>
    have hj : ∀ j, f ≤ j → j < b → Jmp (t.ds.getD j ⟨0, 0⟩) j b := fun j h1 h2 => jmp_of (standsL_all _ _ hs j h1 (by omega))
    have ha : Agr f (upd h f 1) (upd (fun _ => 0) f 1) := fun j hj => by
      unfold Go.Proofs.YteedmmljahgpjabDoor.upd
      split
      · rfl
      · exact k j (by omega)
    have h1 := fitsL_agr (ds := t.ds) (b - f) f _ _ (show f + (b - f) = b by omega) hj ha
    have hz : Zr b (upd h f 1) := fun j hj => by
      unfold Go.Proofs.YteedmmljahgpjabDoor.upd
      rw [if_neg (by omega)]
      exact k j (by omega)
    have h2 := fitsL_zr (ds := t.ds) (b - f) f _ (show f + (b - f) = b by omega) hj hz
    simp only [if_true]
    rw [h1]
    split
    · exact ⟨rfl, h2⟩
    · exact ⟨rfl, h2⟩
/-- One thing behind another, the heights ahead noughts. -/
def Nxt (E : (Nat → Int) → Int × (Nat → Int)) (D : Int) (p q : Int) : Prop := ∀ h, Zr p.toNat h → (E h).1 = D ∧ (D = 0 → Zr q.toNat (E h).2)
theorem sp_nxt {t : TbM} {x : Sp} (h0 : 0 ≤ x.f) (h1 : x.f < x.t) : Nxt (fun h => spanE t h x.f.toNat x.t.toNat) (spD t x) x.f x.t := fun h k => by
  obtain ⟨a, b⟩ := span_agr (t := t) (h := h) (show x.f.toNat < x.t.toNat by omega) k
  exact ⟨a, fun _ => b⟩
theorem lies_le : ∀ (l : List Sp) (p q : Int), liesN p l = some q → p ≤ q
  | [], p, q, h => by simp [liesN] at h; omega
  | x :: l, p, q, h => by
    simp only [liesN] at h
    split at h
    · cases h
    · rename_i hc
      simp at hc
      have := lies_le l _ _ h
      omega
theorem lies_cons {x : Sp} {l : List Sp} {p q : Int} (h : liesN p (x :: l) = some q) : x.f = p ∧ x.f < x.t ∧ liesN x.t l = some q := by
  simp only [liesN] at h
  split at h
  · cases h
  · rename_i hc
    simp at hc
    exact ⟨hc.1, hc.2, h⟩
theorem sps_nxt {t : TbM} : ∀ (l : List Sp) (p q : Int), 0 ≤ p → liesN p l = some q → Nxt (fun h => spansE t h l) (spsD t l) p q
  | [], p, q, _, h => by
    simp [liesN] at h
    subst h
    exact fun h k => ⟨rfl, fun _ => k⟩
  | x :: l, p, q, hp, h => by
    obtain ⟨h1, h2, h3⟩ := lies_cons h
    subst h1
    have hs := sp_nxt (t := t) hp h2
    have hl := sps_nxt (t := t) l x.t q (by omega) h3
    intro g k
    obtain ⟨a, b⟩ := hs g k
    simp only [spansE, spsD]
    simp only at a b
    rw [a]
    by_cases e : spD t x = 0
    · rw [if_pos (by simpa using e), if_pos (by simpa using e)]
      exact hl _ (b e)
    · rw [if_neg (by simpa using e), if_neg (by simpa using e)]
      exact ⟨a, fun e' => absurd e' e⟩
def rwsD (t : TbM) : List RowM → Int
  | [] => 0
  | r :: l => if spsD t (hasL r) == 0 then rwsD t l else spsD t (hasL r)
theorem rws_nxt {t : TbM} : ∀ (l : List RowM) (p q : Int), 0 ≤ p → liesN p (l.map hasL).flatten = some q → Nxt (fun h => rowsE t h l) (rwsD t l) p q
  | [], p, q, _, h => by
    simp [liesN] at h
    subst h
    exact fun h k => ⟨rfl, fun _ => k⟩
  | r :: l, p, q, hp, h => by
    rw [List.map_cons, List.flatten_cons, liesN_app] at h
    obtain ⟨m, hm1, hm2⟩ := Option.bind_eq_some_iff.1 h
    have hs := sps_nxt (t := t) _ p m hp hm1
    have hl := rws_nxt (t := t) l m q (by have := lies_le _ _ _ hm1; omega) hm2
    intro g k
    obtain ⟨a, b⟩ := hs g k
    simp only [rowsE, rwsD]
    simp only at a b
    rw [a]
    by_cases e : spsD t (hasL r) = 0
    · rw [if_pos (by simpa using e), if_pos (by simpa using e)]
      exact hl _ (b e)
    · rw [if_neg (by simpa using e), if_neg (by simpa using e)]
      exact ⟨a, fun e' => absurd e' e⟩
def gdD (t : TbM) (g : GdM) : Int := if spD t g.wh == 0 then (if (readsN t.ds g.wh).1 == g.fd then (if (readsN t.ds g.wh).2 == g.rg then rwsD t g.rs else 193) else 193) else spD t g.wh
theorem gd_nxt {t : TbM} {sl : Int} {nr ns : Nat} (g : GdM) (p q : Int) (hp : 0 ≤ p) (h : gdN sl nr ns g p = some q) : Nxt (fun h => gdE t h g) (gdD t g) p q := by
  unfold gdN at h
  split at h
  · unfold gSp at h
    obtain ⟨h1, h2, h3⟩ := lies_cons h
    subst h1
    have hs := sp_nxt (t := t) hp h2
    have hl := rws_nxt (t := t) g.rs g.wh.t q (by omega) h3
    intro hh k
    obtain ⟨a, b⟩ := hs hh k
    simp only [gdE, gdD]
    simp only at a b
    rw [a]
    cases e : (spD t g.wh == 0) with
    | true =>
      have e' : spD t g.wh = 0 := by simpa using e
      simp only [if_true]
      cases e1 : ((readsN t.ds g.wh).1 == g.fd) with
      | true =>
        simp only [if_true]
        cases e2 : ((readsN t.ds g.wh).2 == g.rg) with
        | true =>
          simp only [if_true]
          exact hl _ (b e')
        | false =>
          simp only [Bool.false_eq_true, if_false]
          exact ⟨by first | rfl | trivial, fun k => by cases k⟩
      | false =>
        simp only [Bool.false_eq_true, if_false]
        exact ⟨by first | rfl | trivial, fun k => by cases k⟩
    | false =>
      have e' : ¬ spD t g.wh = 0 := by simpa using e
      simp only [Bool.false_eq_true, if_false]
      exact ⟨a, fun k => absurd k e'⟩
  · cases h
theorem gd_le {sl : Int} {nr ns : Nat} {g : GdM} {p q : Int} (h : gdN sl nr ns g p = some q) : p ≤ q := by
  unfold gdN at h
  split at h
  · exact lies_le _ _ _ h
  · cases h
def gdsD (t : TbM) : List GdM → Int
  | [] => 0
  | g :: l => if gdD t g == 0 then gdsD t l else gdD t g
theorem gds_nxt {t : TbM} {sl : Int} {nr ns : Nat} : ∀ (l : List GdM) (p q : Int), 0 ≤ p → gdsN sl nr ns p l = some q → Nxt (fun h => gdsE t h l) (gdsD t l) p q ∧ p ≤ q
  | [], p, q, _, h => by
    simp [gdsN] at h
    subst h
    exact ⟨fun h k => ⟨rfl, fun _ => k⟩, Int.le_refl _⟩
  | g :: l, p, q, hp, h => by
    simp only [gdsN] at h
    obtain ⟨m, hm1, hm2⟩ := Option.bind_eq_some_iff.1 h
    have hs := gd_nxt (t := t) g p m hp hm1
    have hle := gd_le hm1
    obtain ⟨hl, hle2⟩ := gds_nxt (t := t) l m q (by omega) hm2
    refine ⟨fun hh k => ?_, by omega⟩
    obtain ⟨a, b⟩ := hs hh k
    simp only [gdsE, gdsD]
    simp only at a b
    rw [a]
    by_cases e : gdD t g = 0
    · rw [if_pos (by simpa using e), if_pos (by simpa using e)]
      exact hl _ (b e)
    · rw [if_neg (by simpa using e), if_neg (by simpa using e)]
      exact ⟨a, fun e' => absurd e' e⟩
def stsD (t : TbM) : List StM → Int
  | [] => 0
  | s :: l => if gdsD t s.gs == 0 then stsD t l else gdsD t s.gs
theorem sts_nxt {t : TbM} {sl : Int} {nr ns : Nat} : ∀ (l : List StM) (p q : Int), 0 ≤ p → stsN sl nr ns p l = some q → Nxt (fun h => stsE t h l) (stsD t l) p q
  | [], p, q, _, h => by
    simp [stsN] at h
    subst h
    exact fun h k => ⟨rfl, fun _ => k⟩
  | s :: l, p, q, hp, h => by
    simp only [stsN] at h
    split at h
    · cases h
    · obtain ⟨m, hm1, hm2⟩ := Option.bind_eq_some_iff.1 h
      obtain ⟨hs, hle⟩ := gds_nxt (t := t) s.gs p m hp hm1
      have hl := sts_nxt (t := t) l m q (by omega) hm2
      intro hh k
      obtain ⟨a, b⟩ := hs hh k
      simp only [stsE, stsD]
      simp only at a b
      rw [a]
      by_cases e : gdsD t s.gs = 0
      · rw [if_pos (by simpa using e), if_pos (by simpa using e)]
        exact hl _ (b e)
      · rw [if_neg (by simpa using e), if_neg (by simpa using e)]
        exact ⟨a, fun e' => absurd e' e⟩
theorem checkD_eq (t : TbM) : checkE t = if formB t then stsD t t.ts else 190 := by
  unfold checkE
  cases hf : formB t with
  | false => rfl
  | true =>
    simp only [if_true]
    unfold formB at hf
    simp only [Bool.and_eq_true] at hf
    have he := hf.2
    unfold endB at he
    split at he
    · rename_i q hq
      exact (sts_nxt (t := t) t.ts 0 q (Int.le_refl _) hq (fun _ => 0) (fun _ _ => rfl)).1
    · cases he
end Go.Proofs.YteedmmljahgpjabDoor

/-
  Rows of a table that may be: their lengths and actions.
-/
namespace Go.Proofs.YteedmmljahgpjabDoor
open Go.RowKit
set_option linter.unusedVariables false
set_option linter.unusedSimpArgs false
theorem rowsR_all (sl : Int) (nr ns : Nat) : ∀ l : List RowM, rowsR sl nr ns l = true → ∀ r ∈ l, rowB sl nr ns r = true
  | [], _ => fun r hr => by cases hr
  | x :: l, h => fun r hr => by
    simp only [rowsR, Bool.and_eq_true] at h
    rcases List.mem_cons.1 hr with rfl | hr
    · exact h.1.1
    · exact rowsR_all sl nr ns l h.2 r hr
theorem gdsN_rows (sl : Int) (nr ns : Nat) : ∀ (l : List GdM) (p q : Int), gdsN sl nr ns p l = some q → ∀ g ∈ l, ∀ r ∈ g.rs, rowB sl nr ns r = true
  | [], p, q, h => fun x hx => by cases hx
  | y :: l, p, q, h => by
    unfold gdsN at h
    obtain ⟨r, hr, h⟩ := Option.bind_eq_some_iff.1 h
    unfold gdN at hr
    split at hr
    · rename_i hb
      unfold rowsB at hb
      rw [Bool.and_eq_true] at hb
      intro g hg
      rcases List.mem_cons.1 hg with rfl | hg
      · exact rowsR_all sl nr ns _ hb.2
      · exact gdsN_rows sl nr ns l r q h g hg
    · cases hr
theorem stsN_rows (sl : Int) (nr ns : Nat) : ∀ (l : List StM) (p q : Int), stsN sl nr ns p l = some q → ∀ s ∈ l, ∀ g ∈ s.gs, ∀ r ∈ g.rs, rowB sl nr ns r = true
  | [], p, q, h => fun x hx => by cases hx
  | y :: l, p, q, h => by
    unfold stsN at h
    split at h
    · cases h
    · obtain ⟨r, hr, h⟩ := Option.bind_eq_some_iff.1 h
      intro s hs
      rcases List.mem_cons.1 hs with rfl | hs
      · exact gdsN_rows sl nr ns _ p r hr
      · exact stsN_rows sl nr ns l r q h s hs
theorem form_rows {t : TbM} (h : formB t = true) : ∀ s ∈ t.ts, ∀ g ∈ s.gs, ∀ r ∈ g.rs, rowB t.sl t.rs.length t.ts.length r = true := by
  unfold formB at h
  rw [Bool.and_eq_true, Bool.and_eq_true] at h
  obtain ⟨_, h3⟩ := h
  unfold endB at h3
  split at h3
  · rename_i q hq
    exact stsN_rows _ _ _ _ 0 q hq
  · cases h3
end Go.Proofs.YteedmmljahgpjabDoor

/-
  The document's number and signed: bytes behind bytes.
-/
namespace Go.Proofs.YteedmmljahgpjabDoor
open Go.RowKit
set_option linter.unusedVariables false
set_option linter.unusedSimpArgs false
theorem put1_le {n : Int} (h1 : n ≤ 18446744073709551615) : (W.put1 n.toNat).length ≤ 10 := W.put1_ten (by omega)
end Go.Proofs.YteedmmljahgpjabDoor

/-
  The document's state: a state's guards behind bytes.
-/
namespace Go.Proofs.YteedmmljahgpjabDoor
open Go.RowKit
set_option linter.unusedVariables false
set_option linter.unusedSimpArgs false
def pL (l : List Int) : List UInt8 := (l.map (fun n => W.put1 n.toNat)).flatten
end Go.Proofs.YteedmmljahgpjabDoor

/-
  The document's Encode, of any table.
-/
namespace Go.Proofs.YteedmmljahgpjabDoor
open Go.RowKit
set_option linter.unusedVariables false
set_option linter.unusedSimpArgs false
theorem pL_app (a b : List Int) : pL (a ++ b) = pL a ++ pL b := by unfold pL; rw [List.map_append, List.flatten_append]
theorem pL_put : ∀ l : List Int, pL l = W.putL (W.nats l)
  | [] => rfl
  | n :: l => by
    have := pL_put l
    unfold pL W.nats at *
    simp only [List.map_cons, List.flatten_cons, W.putL]
    rw [this]
theorem sg_b (l : List Int) : pL (sgZ l) = W.put1 l.length ++ (l.map (fun n => W.put1 (W.zigN n).toNat)).flatten := by
  unfold sgZ pL
  rw [List.map_cons, List.flatten_cons, List.map_map, Int.toNat_natCast]
  rfl
theorem pL_len : ∀ l : List Int, (∀ n ∈ l, n ≤ 18446744073709551615) → (pL l).length ≤ 10 * l.length
  | [], _ => Nat.le_refl _
  | n :: l, h => by
    have h1 := pL_len l (fun m hm => h m (List.mem_cons_of_mem _ hm))
    have h2 := put1_le (h n (List.mem_cons_self ..))
    have e : pL (n :: l) = W.put1 n.toNat ++ pL l := rfl
    rw [e, List.length_append, List.length_cons]
    omega
theorem sg_le {l : List Int} (h : ∀ n ∈ l, I64 n) (hn : l.length ≤ 1000000) : ∀ n ∈ sgZ l, n ≤ 18446744073709551615 := fun n hm => by
  unfold sgZ at hm
  rcases List.mem_cons.1 hm with rfl | hm
  · omega
  · obtain ⟨m, hm2, rfl⟩ := List.mem_map.1 hm
    have := h m hm2
    unfold I64 at this
    unfold W.zigN
    split <;> omega
theorem flat_le {α : Type} {f : α → List Int} {c : Nat} : ∀ l : List α, (∀ a ∈ l, (f a).length ≤ c) → ((l.map f).flatten).length ≤ c * l.length
  | [], _ => Nat.zero_le _
  | a :: l, h => by
    have h1 := flat_le l (fun b hb => h b (List.mem_cons_of_mem _ hb))
    have h2 := h a (List.mem_cons_self ..)
    rw [List.map_cons, List.flatten_cons, List.length_append, List.length_cons, Nat.mul_add, Nat.mul_one]
    omega
end Go.Proofs.YteedmmljahgpjabDoor

/-
  Every instruction of a table that may be stands in a span.
-/
namespace Go.Proofs.YteedmmljahgpjabDoor
open Go.RowKit
set_option linter.unusedVariables false
set_option linter.unusedSimpArgs false
def Cov (t : TbM) (p q : Int) : Prop := ∀ j : Nat, p ≤ j → (j : Int) < q → ∃ b : Nat, (b : Int) ≤ q ∧ standB t (t.ds.getD j ⟨0, 0⟩) j b = true
theorem Cov.trans {t : TbM} {p m q : Int} (h : Cov t p m) (k : Cov t m q) (hm : m ≤ q) : Cov t p q := fun j h1 h2 => by
  by_cases e : (j : Int) < m
  · obtain ⟨b, h3, h4⟩ := h j h1 e
    exact ⟨b, by omega, h4⟩
  · exact k j (by omega) h2
theorem Cov.nil {t : TbM} (p : Int) : Cov t p p := fun j h1 h2 => by omega
theorem sp_cov {t : TbM} {x : Sp} (h0 : 0 ≤ x.f) (h1 : x.f < x.t) (h : spD t x = 0) : Cov t x.f x.t := fun j h2 h3 => by
  unfold spD spanE at h
  cases hs : standsL t x.t.toNat (x.t.toNat - x.f.toNat) x.f.toNat with
  | false => rw [hs] at h; simp at h
  | true => exact ⟨x.t.toNat, by omega, standsL_all _ _ hs j (by omega) (by omega)⟩
theorem sps_cov {t : TbM} : ∀ (l : List Sp) (p q : Int), 0 ≤ p → liesN p l = some q → spsD t l = 0 → Cov t p q
  | [], p, q, _, h, _ => by simp [liesN] at h; subst h; exact Cov.nil p
  | x :: l, p, q, hp, h, e => by
    obtain ⟨h1, h2, h3⟩ := lies_cons h
    subst h1
    simp only [spsD] at e
    split at e
    · rename_i ez
      exact (sp_cov hp h2 (by simpa using ez)).trans (sps_cov l x.t q (by omega) h3 e) (lies_le _ _ _ h3)
    · rename_i ez
      rw [e] at ez
      simp at ez
theorem rws_cov {t : TbM} : ∀ (l : List RowM) (p q : Int), 0 ≤ p → liesN p (l.map hasL).flatten = some q → rwsD t l = 0 → Cov t p q
  | [], p, q, _, h, _ => by simp [liesN] at h; subst h; exact Cov.nil p
  | r :: l, p, q, hp, h, e => by
    rw [List.map_cons, List.flatten_cons, liesN_app] at h
    obtain ⟨m, hm1, hm2⟩ := Option.bind_eq_some_iff.1 h
    have hle := lies_le _ _ _ hm1
    simp only [rwsD] at e
    split at e
    · rename_i ez
      exact (sps_cov _ p m hp hm1 (by simpa using ez)).trans (rws_cov l m q (by omega) hm2 e) (lies_le _ _ _ hm2)
    · rename_i ez
      rw [e] at ez
      simp at ez
theorem gd_cov {t : TbM} {sl : Int} {nr ns : Nat} (g : GdM) (p q : Int) (hp : 0 ≤ p) (h : gdN sl nr ns g p = some q) (e : gdD t g = 0) : Cov t p q := by
  unfold gdN at h
  split at h
  · unfold gSp at h
    obtain ⟨h1, h2, h3⟩ := lies_cons h
    subst h1
    unfold gdD at e
    split at e
    · rename_i ez
      split at e
      · split at e
        · exact (sp_cov hp h2 (by simpa using ez)).trans (rws_cov g.rs g.wh.t q (by omega) h3 e) (lies_le _ _ _ h3)
        · cases e
      · cases e
    · rename_i ez
      rw [e] at ez
      simp at ez
  · cases h
theorem gds_cov {t : TbM} {sl : Int} {nr ns : Nat} : ∀ (l : List GdM) (p q : Int), 0 ≤ p → gdsN sl nr ns p l = some q → gdsD t l = 0 → Cov t p q ∧ p ≤ q
  | [], p, q, _, h, _ => by simp [gdsN] at h; subst h; exact ⟨Cov.nil p, Int.le_refl _⟩
  | g :: l, p, q, hp, h, e => by
    simp only [gdsN] at h
    obtain ⟨m, hm1, hm2⟩ := Option.bind_eq_some_iff.1 h
    have hle := gd_le hm1
    simp only [gdsD] at e
    split at e
    · rename_i ez
      obtain ⟨h1, h2⟩ := gds_cov (t := t) l m q (by omega) hm2 e
      exact ⟨(gd_cov g p m hp hm1 (by simpa using ez)).trans h1 h2, by omega⟩
    · rename_i ez
      rw [e] at ez
      simp at ez
theorem sts_cov {t : TbM} {sl : Int} {nr ns : Nat} : ∀ (l : List StM) (p q : Int), 0 ≤ p → stsN sl nr ns p l = some q → stsD t l = 0 → Cov t p q ∧ p ≤ q
  | [], p, q, _, h, _ => by simp [stsN] at h; subst h; exact ⟨Cov.nil p, Int.le_refl _⟩
  | s :: l, p, q, hp, h, e => by
    simp only [stsN] at h
    split at h
    · cases h
    · obtain ⟨m, hm1, hm2⟩ := Option.bind_eq_some_iff.1 h
      simp only [stsD] at e
      split at e
      · rename_i ez
        obtain ⟨h1, h2⟩ := gds_cov (t := t) s.gs p m hp hm1 (by simpa using ez)
        obtain ⟨h3, h4⟩ := sts_cov (t := t) l m q (by omega) hm2 e
        exact ⟨h1.trans h3 h4, by omega⟩
      · rename_i ez
        rw [e] at ez
        simp at ez
theorem stand_a {t : TbM} {d : InM} {a b : Nat} (h : standB t d a b = true) (hr : t.rs.length ≤ 12) (hc : t.cs.length ≤ 1024) (hb : b ≤ 4096) : 1 ≤ d.k ∧ d.k ≤ 9 ∧ 0 ≤ d.a ∧ d.a ≤ 4096 := by
  unfold standB withinB at h
  by_cases e1 : d.k = 1
  · simp [e1] at h; omega
  by_cases e2 : d.k = 2
  · simp [e2] at h; omega
  by_cases e3 : d.k = 3
  · simp [e3] at h; omega
  by_cases e4 : d.k = 4
  · simp [e4] at h; omega
  by_cases e5 : d.k = 5
  · simp [e5] at h; omega
  by_cases e6 : d.k = 6
  · simp [e6] at h; omega
  by_cases e7 : d.k = 7
  · simp [e7] at h; omega
  by_cases e8 : d.k = 8
  · simp [e8] at h; omega
  by_cases e9 : d.k = 9
  · simp [e9] at h; omega
  · simp [e1, e2, e3, e4, e5, e6, e7, e8, e9] at h
/-- Every instruction of a table that may be names a number from 0 to 4096. -/
theorem ins_a {t : TbM} (h : checkE t = 0) : ∀ d ∈ t.ds, 1 ≤ d.k ∧ d.k ≤ 9 ∧ 0 ≤ d.a ∧ d.a ≤ 4096 := by
  have hf : formB t = true := check_form (by rw [h]; rfl)
  obtain ⟨⟨hr, hc, hd⟩, _⟩ := form_w hf
  rw [checkD_eq, hf, if_pos rfl] at h
  unfold formB at hf
  simp only [Bool.and_eq_true] at hf
  have he := hf.2
  unfold endB at he
  split at he
  · rename_i q hq
    have hq2 : q = (t.ds.length : Int) := by simpa using he
    have hcov := (sts_cov (t := t) t.ts 0 q (Int.le_refl _) hq h).1
    intro d hdm
    obtain ⟨i, hi, rfl⟩ := List.getElem_of_mem hdm
    obtain ⟨b, h1, h2⟩ := hcov i (by omega) (by omega)
    rw [show t.ds.getD i ⟨0, 0⟩ = t.ds[i] by rw [List.getD_eq_getElem?_getD, List.getElem?_eq_getElem hi]; rfl] at h2
    exact stand_a h2 hr hc (by omega)
  · cases he
end Go.Proofs.YteedmmljahgpjabDoor

/-
  What was written is read again: numbers, lists, instructions, rows.
-/
namespace Go.Proofs.YteedmmljahgpjabDoor
open Go.RowKit
set_option linter.unusedVariables false
set_option linter.unusedSimpArgs false
/-- From a place on there stands m. -/
def Rs (l : List UInt8) (p : Int) (m : List UInt8) : Prop := ∃ pre, l = pre ++ m ∧ p = (pre.length : Int)
theorem num_rs {l m : List UInt8} {p n : Int} (h : Rs l p (W.put1 n.toNat ++ m)) (h0 : 0 ≤ n) (h1 : n ≤ 18446744073709551615) : ∃ p', numR l p = some (n, p') ∧ Rs l p' m := by
  obtain ⟨pre, rfl, rfl⟩ := h
  obtain ⟨t1, t2, t3⟩ := W.take_put pre m n.toNat (by omega)
  rw [List.append_assoc] at t1 t2 t3
  refine ⟨((pre ++ W.put1 n.toNat).length : Int), ?_, ⟨pre ++ W.put1 n.toNat, by rw [List.append_assoc], rfl⟩⟩
  unfold numR
  rw [if_pos t1, t2, t3]
  congr 2
  omega
theorem upto_rs {l m : List UInt8} {p n k : Int} (h : Rs l p (W.put1 n.toNat ++ m)) (h0 : 0 ≤ n) (h1 : n ≤ k) (h2 : k ≤ 18446744073709551615) : ∃ p', uptoR k l p = some (n, p') ∧ Rs l p' m := by
  obtain ⟨p', e, hr⟩ := num_rs h h0 (by omega)
  refine ⟨p', ?_, hr⟩
  unfold uptoR
  rw [e]
  simp [h1]
theorem sign_rs {l m : List UInt8} {p n : Int} (h : Rs l p (W.put1 (W.zigN n).toNat ++ m)) (hi : I64 n) : ∃ p', signR l p = some (n, p') ∧ Rs l p' m := by
  have hb := W.zigN_bd n hi.1 hi.2
  obtain ⟨p', e, hr⟩ := num_rs h hb.1 hb.2
  refine ⟨p', ?_, hr⟩
  unfold signR
  rw [e]
  simp [W.zag_zig]
theorem ints_rs {l m : List UInt8} : ∀ (xs : List Int) (p : Int), (∀ n ∈ xs, I64 n) → Rs l p ((xs.map (fun n => W.put1 (W.zigN n).toNat)).flatten ++ m) → ∃ p', intsR l xs.length p = some (xs, p') ∧ Rs l p' m
  | [], p, _, h => ⟨p, rfl, h⟩
  | n :: xs, p, hi, h => by
    rw [List.map_cons, List.flatten_cons, List.append_assoc] at h
    obtain ⟨p1, e1, h1⟩ := sign_rs h (hi n (List.mem_cons_self ..))
    obtain ⟨p2, e2, h2⟩ := ints_rs xs p1 (fun k hk => hi k (List.mem_cons_of_mem _ hk)) h1
    refine ⟨p2, ?_, h2⟩
    simp only [List.length_cons, intsR, e1, Option.bind_some, e2, Option.map_some]
theorem instr_rs {l m : List UInt8} {p : Int} {d : InM} (hd : 1 ≤ d.k ∧ d.k ≤ 9 ∧ 0 ≤ d.a ∧ d.a ≤ 4096) (h : Rs l p (W.put1 d.k.toNat ++ (W.put1 d.a.toNat ++ m))) : ∃ p', instrR l p = some (d, p') ∧ Rs l p' m := by
  obtain ⟨p1, e1, h1⟩ := upto_rs h (by omega) hd.2.1 (by omega)
  obtain ⟨p2, e2, h2⟩ := upto_rs h1 hd.2.2.1 hd.2.2.2 (by omega)
  refine ⟨p2, ?_, h2⟩
  unfold instrR
  rw [e1, Option.bind_some, e2]
  rfl
theorem ins_rs {l m : List UInt8} : ∀ (ds : List InM) (p : Int), (∀ d ∈ ds, 1 ≤ d.k ∧ d.k ≤ 9 ∧ 0 ≤ d.a ∧ d.a ≤ 4096) → Rs l p (pL (((ds.map inZ).flatten).map u64) ++ m) → ∃ p', insR l ds.length p = some (ds, p') ∧ Rs l p' m
  | [], p, _, h => ⟨p, rfl, h⟩
  | d :: ds, p, hd, h => by
    have hd0 := hd d (List.mem_cons_self ..)
    have hk : u64 d.k = d.k := by unfold u64; omega
    have ha : u64 d.a = d.a := by unfold u64; omega
    have e : pL ((((d :: ds).map inZ).flatten).map u64) ++ m = W.put1 d.k.toNat ++ (W.put1 d.a.toNat ++ (pL (((ds.map inZ).flatten).map u64) ++ m)) := by
      rw [List.map_cons, List.flatten_cons]
      unfold inZ pL
      simp [hk, ha]
    rw [e] at h
    obtain ⟨p1, e1, h1⟩ := instr_rs hd0 h
    obtain ⟨p2, e2, h2⟩ := ins_rs ds p1 (fun k hk => hd k (List.mem_cons_of_mem _ hk)) h1
    refine ⟨p2, ?_, h2⟩
    simp only [List.length_cons, insR, e1, Option.bind_some, e2, Option.map_some]
/-- The spans that are there. -/
def prs : List Bool → List Sp → List Sp
  | b :: bs, x :: xs => if b then x :: prs bs xs else prs bs xs
  | _, _ => []
theorem spR_0 (q : RS) : spR q 0 = q := by unfold spR; simp
theorem len_rs {l m : List UInt8} {p : Int} {q : RS} {x : Sp} (h : Rs l p (W.put1 x.len.toNat ++ m)) (hf : x.f = q.sp) (h0 : 0 ≤ x.len) (h1 : x.len ≤ 4096) : ∃ p', lenR q l p = some (x, spR q x.len, p') ∧ Rs l p' m := by
  obtain ⟨p1, e1, h2⟩ := upto_rs h h0 h1 (by omega)
  refine ⟨p1, ?_, h2⟩
  unfold lenR
  rw [e1]
  have hx : (⟨q.sp, q.sp + x.len⟩ : Sp) = x := by
    obtain ⟨f, t⟩ := x
    simp only at hf
    unfold Sp.len
    rw [← hf]
    simp
    omega
  simp [hx]
theorem sps_rs {l m : List UInt8} : ∀ (bs : List Bool) (xs : List Sp) (q : RS) (p z : Int), bs.length = xs.length → (∀ i (h1 : i < bs.length) (h2 : i < xs.length), bs[i] = false → xs[i] = sp0) → liesN q.sp (prs bs xs) = some z → (∀ x ∈ prs bs xs, x.len ≤ 4096) → Rs l p (pL ((prs bs xs).map Sp.len) ++ m) →
    ∃ p', spsR bs q l p = some (xs, spR q (z - q.sp), p') ∧ Rs l p' m
  | [], [], q, p, z, _, _, hz, _, h => by
    simp [prs, liesN] at hz
    subst hz
    refine ⟨p, ?_, h⟩
    simp only [spsR]
    rw [Int.sub_self, spR_0]
  | true :: bs, x :: xs, q, p, z, hl, hn, hz, hb, h => by
    have e : prs (true :: bs) (x :: xs) = x :: prs bs xs := rfl
    rw [e] at hz hb h
    obtain ⟨h1, h2, h3⟩ := lies_cons hz
    have hx := hb x (List.mem_cons_self ..)
    have e2 : pL ((x :: prs bs xs).map Sp.len) ++ m = W.put1 x.len.toNat ++ (pL ((prs bs xs).map Sp.len) ++ m) := by
      unfold pL
      simp
    rw [e2] at h
    obtain ⟨p1, e1, hr⟩ := len_rs h h1 (by unfold Sp.len; omega) hx
    have hsp : (spR q x.len).sp = x.t := by unfold spR Sp.len; simp only; omega
    obtain ⟨p2, e3, hr2⟩ := sps_rs bs xs (spR q x.len) p1 z (by simpa using hl) (fun i h1 h2 hf => hn (i + 1) (by simpa using h1) (by simpa using h2) hf) (by rw [hsp]; exact h3) (fun y hy => hb y (List.mem_cons_of_mem _ hy)) hr
    refine ⟨p2, ?_, hr2⟩
    simp only [spsR, if_true, e1, Option.bind_some, e3, Option.map_some]
    congr 3
    unfold spR Sp.len
    simp only
    congr 1
    omega
  | false :: bs, x :: xs, q, p, z, hl, hn, hz, hb, h => by
    have e : prs (false :: bs) (x :: xs) = prs bs xs := rfl
    rw [e] at hz hb h
    have hx : x = sp0 := hn 0 (by simp) (by simp) rfl
    obtain ⟨p2, e3, hr2⟩ := sps_rs bs xs q p z (by simpa using hl) (fun i h1 h2 hf => hn (i + 1) (by simpa using h1) (by simpa using h2) hf) hz hb h
    refine ⟨p2, ?_, hr2⟩
    simp only [spsR, Bool.false_eq_true, if_false, e3, Option.map_some, hx]
  | [], _ :: _, _, _, _, hl, _, _, _, _ => by simp at hl
  | _ :: _, [], _, _, _, hl, _, _, _, _ => by simp at hl
end Go.Proofs.YteedmmljahgpjabDoor

/-
  What was written is read again: rows, guards, states.
-/
namespace Go.Proofs.YteedmmljahgpjabDoor
open Go.RowKit
set_option linter.unusedVariables false
set_option linter.unusedSimpArgs false
theorem has_prs (r : RowM) : hasL r = prs (prts (partsN r.k r.o)) (spL r) := by
  obtain ⟨p, ep⟩ : ∃ p, partsN r.k r.o = p := ⟨_, rfl⟩
  rw [← hasR_0]
  unfold hasR
  rw [ep]
  obtain ⟨a, b, c, d⟩ := p
  cases a <;> cases b <;> cases c <;> cases d <;> rfl
theorem row_none {r : RowM} (h : rowPB r 4 = true) : ∀ i (h1 : i < (prts (partsN r.k r.o)).length) (h2 : i < (spL r).length), (prts (partsN r.k r.o))[i] = false → (spL r)[i] = sp0 := by
  intro i h1 h2 hf
  have hi : i < 4 := h2
  cases hp : partB ((prts (partsN r.k r.o)).getD i false) ((spL r).getD i ⟨0, 0⟩) with
  | false => rw [rowPB_f r i hi hp] at h; cases h
  | true =>
    have hb : (prts (partsN r.k r.o)).getD i false = false := by rw [List.getD_eq_getElem?_getD, List.getElem?_eq_getElem h1]; exact hf
    have hx : (spL r).getD i ⟨0, 0⟩ = (spL r)[i] := by rw [List.getD_eq_getElem?_getD, List.getElem?_eq_getElem h2]; rfl
    rw [hb, hx] at hp
    generalize (spL r)[i] = f at hp ⊢
    obtain ⟨y1, y2⟩ := f
    unfold partB noneB at hp
    simp at hp
    unfold sp0
    rw [hp.1, hp.2]
structure TzB (t : TbM) : Prop where
  sl : 0 ≤ t.sl ∧ t.sl ≤ 4
  r : t.rs.length ≤ 12
  s : t.ts.length ≤ 12
theorem row_kio {t : TbM} {r : RowM} (hz : TzB t) (hb : rowB t.sl t.rs.length t.ts.length r = true) : (0 ≤ r.k ∧ r.k ≤ 6) ∧ (0 ≤ r.o ∧ r.o ≤ 5) ∧ (0 ≤ r.i ∧ r.i ≤ 12) ∧ rowPB r 4 = true := by
  unfold rowB at hb
  simp only [Bool.and_eq_true] at hb
  obtain ⟨⟨h1, h2⟩, h3⟩ := hb
  obtain ⟨z1, z2, z3⟩ := hz
  unfold idxN withinB at h2
  unfold orderB at h1
  by_cases e1 : r.k = 1
  · simp [e1] at h1 h2; exact ⟨by omega, by omega, by omega, h3⟩
  by_cases e2 : r.k = 2
  · simp [e2] at h1 h2; exact ⟨by omega, by omega, by omega, h3⟩
  by_cases e3 : r.k = 3
  · simp [e3] at h1 h2; exact ⟨by omega, by omega, by omega, h3⟩
  by_cases e4 : r.k = 4
  · simp [e4] at h1 h2; exact ⟨by omega, by omega, by omega, h3⟩
  by_cases e5 : r.k = 5
  · simp [e5] at h1 h2; exact ⟨by omega, by omega, by omega, h3⟩
  by_cases e6 : r.k = 6
  · simp [e6] at h1 h2; exact ⟨by omega, by omega, by omega, h3⟩
  · simp [e1, e2, e3, e4, e5, e6] at h2
    omega
theorem spR_spR (q : RS) (a b : Int) : spR (spR q a) b = spR q (a + b) := by unfold spR; simp only; congr 1; omega
theorem spR_sp (q : RS) (a : Int) : (spR q a).sp = q.sp + a := rfl
theorem row_rs {l m : List UInt8} {t : TbM} {r : RowM} {q : RS} {p z : Int} (hz : TzB t) (hb : rowB t.sl t.rs.length t.ts.length r = true) (hl : liesN q.sp (hasL r) = some z) (hw : ∀ x ∈ hasL r, x.len ≤ 4096) (h : Rs l p (pL (rowZ r) ++ m)) :
    ∃ p', rowR q l p = some (r, spR q (z - q.sp), p') ∧ Rs l p' m := by
  obtain ⟨⟨k0, k1⟩, ⟨o0, o1⟩, ⟨i0, i1⟩, hp⟩ := row_kio hz hb
  have e : pL (rowZ r) ++ m = W.put1 r.k.toNat ++ (W.put1 r.o.toNat ++ (W.put1 r.i.toNat ++ (pL ((hasL r).map Sp.len) ++ m))) := by
    unfold rowZ pL
    simp
  rw [e] at h
  obtain ⟨p1, e1, h1⟩ := upto_rs h k0 k1 (by omega)
  obtain ⟨p2, e2, h2⟩ := upto_rs h1 o0 o1 (by omega)
  obtain ⟨p3, e3, h3⟩ := upto_rs h2 i0 i1 (by omega)
  rw [has_prs] at hl hw h3
  obtain ⟨p4, e4, h4⟩ := sps_rs (prts (partsN r.k r.o)) (spL r) q p3 z rfl (row_none hp) hl hw h3
  refine ⟨p4, ?_, h4⟩
  unfold rowR
  simp only [e1, Option.bind_some, e2, e3, e4, Option.map_some]
  rfl
theorem rows_rs {l m : List UInt8} {t : TbM} (hz : TzB t) : ∀ (rs : List RowM) (q : RS) (p z : Int), (∀ r ∈ rs, rowB t.sl t.rs.length t.ts.length r = true) → (∀ r ∈ rs, ∀ x ∈ hasL r, x.len ≤ 4096) → liesN q.sp (rs.map hasL).flatten = some z → Rs l p (pL (rs.map rowZ).flatten ++ m) →
    ∃ p', listR (stR l) rs.length q p = some (rs, spR q (z - q.sp), p') ∧ Rs l p' m
  | [], q, p, z, _, _, hl, h => by
    simp [liesN] at hl
    subst hl
    refine ⟨p, ?_, h⟩
    simp only [List.length_nil, listR]
    rw [Int.sub_self, spR_0]
  | r :: rs, q, p, z, hb, hw, hl, h => by
    rw [List.map_cons, List.flatten_cons, liesN_app] at hl
    obtain ⟨y, hy1, hy2⟩ := Option.bind_eq_some_iff.1 hl
    rw [List.map_cons, List.flatten_cons, pL_app, List.append_assoc] at h
    obtain ⟨p1, e1, h1⟩ := row_rs hz (hb r (List.mem_cons_self ..)) hy1 (hw r (List.mem_cons_self ..)) h
    obtain ⟨p2, e2, h2⟩ := rows_rs hz rs (spR q (y - q.sp)) p1 z (fun x hx => hb x (List.mem_cons_of_mem _ hx)) (fun x hx => hw x (List.mem_cons_of_mem _ hx)) (by rw [spR_sp, show q.sp + (y - q.sp) = y by omega]; exact hy2) h1
    refine ⟨p2, ?_, h2⟩
    simp only [List.length_cons, listR, stR, e1, Option.bind_some]
    rw [e2]
    simp only [Option.map_some, spR_spR, spR_sp]
    congr 4
    omega
theorem rule_rs {l m : List UInt8} {t : TbM} {g : GdM} {q : RS} {p z : Int} (hz : TzB t) (hg : gdN t.sl t.rs.length t.ts.length g q.sp = some z) (hB : GdB g) (h1 : (readsN t.ds g.wh).1 = g.fd) (h2 : (readsN t.ds g.wh).2 = g.rg) (h : Rs l p (pL (gdZ g) ++ m)) :
    ∃ p', ruleR t.ds l q p = some (plG g, spR q (z - q.sp), p') ∧ Rs l p' m := by
  unfold gdN at hg
  split at hg
  · rename_i hb
    unfold rowsB at hb
    rw [Bool.and_eq_true] at hb
    have hrows := rowsR_all _ _ _ _ hb.2
    unfold gSp at hg
    obtain ⟨f1, f2, f3⟩ := lies_cons hg
    have e : pL (gdZ g) ++ m = W.put1 g.wh.len.toNat ++ (W.put1 ((g.rs.length : Int)).toNat ++ (pL (g.rs.map rowZ).flatten ++ m)) := by
      unfold gdZ
      rw [pL_app]
      unfold pL
      simp
    rw [e] at h
    obtain ⟨b1, b2, b3⟩ := hB
    unfold LenW at b1
    obtain ⟨p1, e1, r1⟩ := len_rs h f1 b1.1 b1.2
    obtain ⟨p2, e2, r2⟩ := upto_rs (k := 8) r1 (by omega) (by omega) (by omega)
    have hsp : (spR q g.wh.len).sp = g.wh.t := by rw [spR_sp, ← f1]; unfold Sp.len; omega
    obtain ⟨p3, e3, r3⟩ := rows_rs hz g.rs (spR q g.wh.len) p2 z hrows (fun r hr x hx => (b3 r hr x hx).2) (by rw [hsp]; exact f3) r2
    refine ⟨p3, ?_, r3⟩
    unfold ruleR
    simp only [e1, Option.bind_some, e2, Int.toNat_natCast, e3, Option.map_some, h1, h2]
    unfold plG
    simp only [spR_spR, hsp]
    congr 4
    rw [← f1]
    unfold Sp.len
    omega
  · cases hg
end Go.Proofs.YteedmmljahgpjabDoor
