import Derived.Test.YtkfabnchhjfjjabGreatDoorPm
/-
  Plain: what is left of the tokens was there before.
-/
namespace Go.Proofs.YtkfabnchhjfjjabGreatDoor
open Go.RowKit
theorem bind_ok {α β : Type} {x : Except Ft α} {f : α → Except Ft β} {y : β} (h : (x >>= f) = .ok y) : ∃ a, x = .ok a ∧ f a = .ok y := by
  cases x with
  | error e => cases h
  | ok a => exact ⟨a, rfl, h⟩
/-- What is left was there before. -/
def Subs (p : List Tk → Except Ft (Tr × List Tk)) : Prop := ∀ ts t r, p ts = .ok (t, r) → ∀ x ∈ r, x ∈ ts
theorem gStep_sub {ts : List Tk} {q : Tk × List Tk} (h : gStep ts = .ok q) : ∀ x ∈ q.2, x ∈ ts := by
  cases ts with
  | nil => cases h
  | cons t ts => cases h; intro x hx; exact List.mem_cons_of_mem _ hx
theorem gTake_sub {y : ByteArray} {ts : List Tk} {q : Tk × List Tk} (h : gTake y ts = .ok q) : ∀ x ∈ q.2, x ∈ ts := by
  unfold gTake at h
  obtain ⟨_, _, h⟩ := bind_ok h
  obtain ⟨_, _, h⟩ := bind_ok h
  exact gStep_sub h
theorem gOpn_sub {d : Nat} {ts : List Tk} {q : Tk × List Tk} (h : gOpn d ts = .ok q) : ∀ x ∈ q.2, x ∈ ts := by
  unfold gOpn at h
  obtain ⟨_, _, h⟩ := bind_ok h
  exact gStep_sub h
theorem gLit_sub : Subs gLit := by
  intro ts t r h
  unfold gLit at h
  obtain ⟨_, _, h⟩ := bind_ok h
  obtain ⟨_, _, h⟩ := bind_ok h
  obtain ⟨q, h1, h⟩ := bind_ok h
  cases h
  exact gStep_sub h1
theorem gRowR_sub (oper : ByteArray → Int) {part : List Tk → Except Ft (Tr × List Tk)} (hp : Subs part) : ∀ m n, Subs (gRowR oper part m n) := by
  intro m
  induction m with
  | zero => intro n ts t r h x hx; cases h; exact hx
  | succ m ih =>
    intro n ts t r h
    unfold gRowR at h
    obtain ⟨u, _, h⟩ := bind_ok h
    split at h
    · cases h; exact fun x hx => hx
    · obtain ⟨q, h1, h⟩ := bind_ok h
      obtain ⟨q2, h2, h⟩ := bind_ok h
      exact fun x hx => gStep_sub h1 x (hp _ _ _ h2 x (ih _ _ _ _ h x hx))
theorem gRow_sub (oper : ByteArray → Int) {part : List Tk → Except Ft (Tr × List Tk)} (hp : Subs part) (m : Nat) : Subs (gRow oper part m) := by
  intro ts t r h
  unfold gRow at h
  obtain ⟨q, h1, h⟩ := bind_ok h
  exact fun x hx => hp _ _ _ h1 x (gRowR_sub oper hp m _ _ _ _ h x hx)
theorem gOne_sub {ex : List Tk → Except Ft (Tr × List Tk)} (he : Subs ex) (d : Nat) : Subs (gOne ex d) := by
  intro ts t r h
  unfold gOne at h
  obtain ⟨u, _, h⟩ := bind_ok h
  split at h
  · obtain ⟨q1, h1, h⟩ := bind_ok h
    obtain ⟨q2, h2, h⟩ := bind_ok h
    obtain ⟨q3, h3, h⟩ := bind_ok h
    cases h
    exact fun x hx => gOpn_sub h1 x (he _ _ _ h2 x (gTake_sub h3 x hx))
  split at h
  · obtain ⟨q1, h1, h⟩ := bind_ok h
    obtain ⟨_, _, h⟩ := bind_ok h
    obtain ⟨_, _, h⟩ := bind_ok h
    obtain ⟨q2, h2, h⟩ := bind_ok h
    cases h
    exact fun x hx => gStep_sub h1 x (gStep_sub h2 x hx)
  split at h
  · obtain ⟨q1, h1, h⟩ := bind_ok h
    obtain ⟨⟨u2, r2⟩, h2, h⟩ := bind_ok h
    simp only at h
    split at h
    · obtain ⟨q3, h3, h⟩ := bind_ok h
      obtain ⟨q4, h4, h⟩ := bind_ok h
      cases h
      exact fun x hx => gOpn_sub h1 x (gTake_sub h2 x (he _ _ _ h3 x (gTake_sub h4 x hx)))
    · obtain ⟨q3, h3, h⟩ := bind_ok h
      obtain ⟨q4, h4, h⟩ := bind_ok h
      obtain ⟨q5, h5, h⟩ := bind_ok h
      obtain ⟨q6, h6, h⟩ := bind_ok h
      cases h
      exact fun x hx => gOpn_sub h1 x (gTake_sub h2 x (he _ _ _ h3 x (gTake_sub h4 x (he _ _ _ h5 x (gTake_sub h6 x hx)))))
  split at h
  · obtain ⟨q1, h1, h⟩ := bind_ok h
    obtain ⟨q2, h2, h⟩ := bind_ok h
    obtain ⟨q3, h3, h⟩ := bind_ok h
    obtain ⟨q4, h4, h⟩ := bind_ok h
    cases h
    exact fun x hx => gOpn_sub h1 x (gTake_sub h2 x (he _ _ _ h3 x (gTake_sub h4 x hx)))
  split at h
  · obtain ⟨q1, h1, h⟩ := bind_ok h
    cases h
    exact gStep_sub h1
  split at h
  · obtain ⟨q1, h1, h⟩ := bind_ok h
    cases h
    exact gStep_sub h1
  exact gLit_sub _ _ _ h
theorem gUn_sub {ex un : List Tk → Except Ft (Tr × List Tk)} (he : Subs ex) (hu : Subs un) (d : Nat) : Subs (gUn ex un d) := by
  intro ts t r h
  unfold gUn at h
  obtain ⟨u, _, h⟩ := bind_ok h
  split at h
  · exact gOne_sub he d _ _ _ h
  · obtain ⟨q1, h1, h⟩ := bind_ok h
    obtain ⟨q2, h2, h⟩ := bind_ok h
    cases h
    exact fun x hx => gOpn_sub h1 x (hu _ _ _ h2 x hx)
theorem gEx_sub {ex un : List Tk → Except Ft (Tr × List Tk)} (he : Subs ex) (hu : Subs un) (d : Nat) : Subs (gEx ex un d) := by
  intro ts t r h
  unfold gEx at h
  obtain ⟨q, h0, h⟩ := bind_ok h
  have hr := gRow_sub orX (gRow_sub andX (gRow_sub cmpX (gRow_sub sumX (gRow_sub proX (gUn_sub he hu d) 4096) 4096) 1) 4096) 4096 _ _ _ h0
  obtain ⟨b, _, h⟩ := bind_ok h
  split at h
  · cases h; exact hr
  · obtain ⟨q1, h1, h⟩ := bind_ok h
    obtain ⟨q2, h2, h⟩ := bind_ok h
    obtain ⟨q3, h3, h⟩ := bind_ok h
    obtain ⟨q4, h4, h⟩ := bind_ok h
    cases h
    exact fun x hx => hr x (gOpn_sub h1 x (he _ _ _ h2 x (gTake_sub h3 x (he _ _ _ h4 x hx))))
theorem exF_sub : ∀ f d, Subs (exF f d) ∧ Subs (unF f d) := by
  intro f
  induction f with
  | zero => intro d; exact ⟨fun ts t r h => (by rw [exF] at h; cases h), fun ts t r h => (by rw [unF] at h; cases h)⟩
  | succ f ih =>
    intro d
    refine ⟨fun ts t r h => ?_, fun ts t r h => ?_⟩
    · rw [exF] at h; exact gEx_sub (ih (d + 1)).1 (ih (d + 1)).2 d ts t r h
    · rw [unF] at h; exact gUn_sub (ih (d + 1)).1 (ih (d + 1)).2 d ts t r h
end Go.Proofs.YtkfabnchhjfjjabGreatDoor

/-
  Plain: an expression in brackets is the same expression.
-/
namespace Go.Proofs.YtkfabnchhjfjjabGreatDoor
open Go.RowKit
/-- Two tokens, the same but for their places. -/
def TkS (t u : Tk) : Prop := u.k = t.k ∧ u.x = t.x ∧ u.ty = t.ty ∧ u.n = t.n ∧ t.k ≠ 0
/-- Two rows of tokens, the same but for places; where the first ends, a bracket closes in the second. -/
inductive Ls : List Tk → List Tk → Prop
  | fin (e f g : Tk) (h1 : e.x = gE) (h2 : e.k = 0) (h3 : e.ty = 0) (f1 : f.x = gB [41]) (g1 : g.x = gE) (g2 : g.k = 0) : Ls [e] [f, g]
  | cons (t u : Tk) (ts us : List Tk) (h : TkS t u) (hs : Ls ts us) : Ls (t :: ts) (u :: us)
mutual
/-- A tree without places. -/
def bareT : Tr → Tr
  | .mk h ks => .mk ⟨h.k, h.o, h.t, h.n, h.f, h.x, 0⟩ (bareTs ks)
def bareTs : List Tr → List Tr
  | [] => []
  | k :: ks => bareT k :: bareTs ks
end
/-- What succeeds with the first succeeds with the second, or is too deep. -/
def Rel {α β : Type} (A : α → β → Prop) (x : Except Ft α) (y : Except Ft β) : Prop := ∀ a, x = .ok a → (∃ b, y = .ok b ∧ A a b) ∨ ∃ q, y = .error (.tok 132 q)
theorem Rel.ok {α β : Type} {A : α → β → Prop} {a : α} {b : β} (h : A a b) : Rel A (.ok a) (.ok b) := fun _ e => by cases e; exact .inl ⟨b, rfl, h⟩
theorem Rel.err {α β : Type} {A : α → β → Prop} {f : Ft} {y : Except Ft β} : Rel A (.error f : Except Ft α) y := fun _ e => by cases e
theorem Rel.bind {α β γ δ : Type} {A : α → β → Prop} {B : γ → δ → Prop} {x : Except Ft α} {y : Except Ft β} {f : α → Except Ft γ} {g : β → Except Ft δ} (h : Rel A x y) (k : ∀ a b, A a b → Rel B (f a) (g b)) : Rel B (x >>= f) (y >>= g) := by
  intro c hc
  obtain ⟨a, h1, h2⟩ := bind_ok hc
  rcases h a h1 with ⟨b, h3, h4⟩ | ⟨q, h3⟩
  · rw [h3]
    exact k a b h4 c h2
  · rw [h3]
    exact .inr ⟨q, rfl⟩
def PT (a b : Tr × List Tk) : Prop := bareT a.1 = bareT b.1 ∧ Ls a.2 b.2
def PK (a b : Tk × List Tk) : Prop := TkS a.1 b.1 ∧ Ls a.2 b.2
def Sim (p q : List Tk → Except Ft (Tr × List Tk)) : Prop := ∀ ts us, Ls ts us → Rel PT (p ts) (q us)
theorem need_t (no : Int) (ts : List Tk) : gNeed true no ts = .ok () := rfl
theorem need_f (no : Int) (t : Tk) (ts : List Tk) : gNeed false no (t :: ts) = .error (.tok no t.p) := rfl
theorem opn_rel (d d' : Nat) {t u : Tk} {ts us : List Tk} (h : TkS t u) (hs : Ls ts us) : Rel (fun a b => PK a b ∧ d' < 24) (gOpn d (t :: ts)) (gOpn d' (u :: us)) := by
  unfold gOpn
  by_cases h1 : d < 24
  · by_cases h2 : d' < 24
    · rw [decide_eq_true h1, decide_eq_true h2, need_t, need_t]
      exact Rel.ok ⟨⟨h, hs⟩, h2⟩
    · rw [decide_eq_false h2, need_f]
      exact fun _ _ => .inr ⟨_, rfl⟩
  · rw [decide_eq_false h1, need_f]
    exact Rel.err
theorem take_rel (x : ByteArray) (hx : ¬ gE = x) {ts us : List Tk} (h : Ls ts us) : Rel PK (gTake x ts) (gTake x us) := by
  cases h with
  | fin e f g h1 h2 h3 f1 g1 g2 =>
    unfold gTake gIs gLook
    simp only [Except.map, bind, Except.bind, h1, decide_eq_false hx, need_f]
    exact Rel.err
  | cons t u ts us h hs =>
    unfold gTake gIs gLook
    simp only [Except.map, bind, Except.bind, h.2.1]
    by_cases e : t.x = x
    · rw [decide_eq_true e, need_t, need_t]
      exact Rel.ok ⟨h, hs⟩
    · rw [decide_eq_false e, need_f]
      exact Rel.err
theorem rowR_sim (oper : ByteArray → Int) (o1 : oper gE = 0) (o2 : oper (gB [41]) = 0) {p q : List Tk → Except Ft (Tr × List Tk)} (hp : Sim p q) : ∀ (m : Nat) (n n' : Tr), bareT n = bareT n' → Sim (gRowR oper p m n) (gRowR oper q m n') := by
  intro m
  induction m with
  | zero => intro n n' hn ts us h; exact Rel.ok ⟨hn, h⟩
  | succ m ih =>
    intro n n' hn ts us h
    cases h with
    | fin e f g h1 h2 h3 f1 g1 g2 =>
      unfold gRowR gLook
      simp only [bind, Except.bind, h1, f1, o1, o2, if_true]
      exact Rel.ok ⟨hn, .fin e f g h1 h2 h3 f1 g1 g2⟩
    | cons t u ts us h hs =>
      unfold gRowR gLook
      show Rel PT (if oper t.x = 0 then _ else _) (if oper u.x = 0 then _ else _)
      rw [h.2.1]
      by_cases e : oper t.x = 0
      · rw [if_pos e, if_pos e]
        exact Rel.ok ⟨hn, .cons t u ts us h hs⟩
      · rw [if_neg e, if_neg e]
        refine Rel.bind (x := gStep (t :: ts)) (y := gStep (u :: us)) (A := PK) (Rel.ok ⟨h, hs⟩) ?_
        rintro ⟨_, r0⟩ ⟨_, r0'⟩ ⟨_, hr0⟩
        refine Rel.bind (hp r0 r0' hr0) ?_
        rintro ⟨k, r⟩ ⟨k', r'⟩ ⟨hk, hr⟩
        refine ih _ _ ?_ r r' hr
        simp only at hk
        simp only [bareT, bareTs, hn, hk]
theorem row_sim (oper : ByteArray → Int) (o1 : oper gE = 0) (o2 : oper (gB [41]) = 0) {p q : List Tk → Except Ft (Tr × List Tk)} (hp : Sim p q) (m : Nat) : Sim (gRow oper p m) (gRow oper q m) := by
  intro ts us h
  unfold gRow
  refine Rel.bind (hp ts us h) ?_
  rintro ⟨k, r⟩ ⟨k', r'⟩ ⟨hk, hr⟩
  exact rowR_sim oper o1 o2 hp m _ _ hk r r' hr
theorem lit_sim : ∀ t u ts us, TkS t u → Ls ts us → Rel PT (gLit (t :: ts)) (gLit (u :: us)) := by
  intro t u ts us h hs
  have hv : valT u = valT t := by unfold valT; rw [h.2.1, h.2.2.1, h.2.2.2.1]
  unfold gLit gLook gStep
  simp only [bind, Except.bind, hv]
  by_cases e : (valT t).1 ≠ 0
  · rw [decide_eq_true e, need_t, need_t]
    exact Rel.ok ⟨by simp only [bareT, bareTs], hs⟩
  · rw [decide_eq_false e, need_f]
    exact Rel.err
theorem one_end (ex : List Tk → Except Ft (Tr × List Tk)) (d : Nat) (e : Tk) (h1 : e.x = gE) (h2 : e.k = 0) (h3 : e.ty = 0) : gOne ex d [e] = .error (.tok 130 e.p) := by
  have v : valT e = (0, e.n) := by
    unfold valT
    rw [h1, h3, show eqX gE [116, 114, 117, 101] = false by decide +kernel, show eqX gE [102, 97, 108, 115, 101] = false by decide +kernel, show eqX gE [98, 117, 121] = false by decide +kernel, show eqX gE [115, 101, 108, 108] = false by decide +kernel]
    rfl
  have q : gLit [e] = .error (.tok 130 e.p) := by
    unfold gLit gLook
    simp only [bind, Except.bind, v]
    rfl
  unfold gOne gLook
  simp only [bind, Except.bind, h1, h2, show eqX gE [40] = false by decide +kernel, show eqX gE [104, 97, 115] = false by decide +kernel, show callX gE = 0 by decide +kernel, show tyX gE = 0 by decide +kernel, show fieldX gE = 0 by decide +kernel]
  simpa using q
theorem one_sim {ex ex' : List Tk → Except Ft (Tr × List Tk)} (d d' : Nat) (he : d' < 24 → Sim ex ex') : Sim (gOne ex d) (gOne ex' d') := by
  intro ts us h
  cases h with
  | fin e f g h1 h2 h3 f1 g1 g2 => rw [one_end ex d e h1 h2 h3]; exact Rel.err
  | cons t u ts us h hs =>
    unfold gOne gLook
    show Rel PT (if eqX t.x [40] = true then _ else _) (if eqX u.x [40] = true then _ else _)
    rw [h.2.1, h.1]
    by_cases c1 : eqX t.x [40] = true
    · rw [if_pos c1, if_pos c1]
      refine Rel.bind (opn_rel d d' h hs) ?_
      rintro ⟨_, r⟩ ⟨_, r'⟩ ⟨⟨_, hr⟩, hd⟩
      refine Rel.bind (he hd r r' hr) ?_
      rintro ⟨n, r⟩ ⟨n', r'⟩ ⟨hn, hr⟩
      refine Rel.bind (take_rel _ (by decide +kernel) hr) ?_
      rintro ⟨_, r⟩ ⟨_, r'⟩ ⟨_, hr⟩
      exact Rel.ok ⟨hn, hr⟩
    rw [if_neg c1, if_neg c1]
    by_cases c2 : eqX t.x [104, 97, 115] = true
    · rw [if_pos c2, if_pos c2]
      unfold gStep
      cases hs with
      | fin e f g h1 h2 h3 f1 g1 g2 =>
        show Rel PT (gNeed (decide (1 ≤ fieldX e.x ∧ fieldX e.x ≤ 3)) 130 [e] >>= _) _
        rw [h1, show decide (1 ≤ fieldX gE ∧ fieldX gE ≤ 3) = false by decide +kernel]
        exact Rel.err
      | cons y z ys zs hy hys =>
        show Rel PT (gNeed (decide (1 ≤ fieldX y.x ∧ fieldX y.x ≤ 3)) 130 (y :: ys) >>= _) (gNeed (decide (1 ≤ fieldX z.x ∧ fieldX z.x ≤ 3)) 130 (z :: zs) >>= _)
        rw [hy.2.1]
        by_cases e : 1 ≤ fieldX y.x ∧ fieldX y.x ≤ 3
        · rw [decide_eq_true e, need_t, need_t]
          exact Rel.ok ⟨by simp only [bareT, bareTs], hys⟩
        · rw [decide_eq_false e, need_f]
          exact Rel.err
    rw [if_neg c2, if_neg c2]
    by_cases c3 : callX t.x ≠ 0
    · rw [if_pos c3, if_pos c3]
      refine Rel.bind (opn_rel d d' h hs) ?_
      rintro ⟨_, r⟩ ⟨_, r'⟩ ⟨⟨_, hr⟩, hd⟩
      refine Rel.bind (take_rel _ (by decide +kernel) hr) ?_
      rintro ⟨_, r⟩ ⟨_, r'⟩ ⟨_, hr⟩
      simp only
      by_cases c4 : callX t.x = 3
      · rw [if_pos c4, if_pos c4]
        refine Rel.bind (he hd r r' hr) ?_
        rintro ⟨n, r⟩ ⟨n', r'⟩ ⟨hn, hr⟩
        refine Rel.bind (take_rel _ (by decide +kernel) hr) ?_
        rintro ⟨_, r⟩ ⟨_, r'⟩ ⟨_, hr⟩
        exact Rel.ok ⟨by simp only at hn; simp only [bareT, bareTs, hn], hr⟩
      · rw [if_neg c4, if_neg c4]
        refine Rel.bind (he hd r r' hr) ?_
        rintro ⟨n, r⟩ ⟨n', r'⟩ ⟨hn, hr⟩
        refine Rel.bind (take_rel _ (by decide +kernel) hr) ?_
        rintro ⟨_, r⟩ ⟨_, r'⟩ ⟨_, hr⟩
        refine Rel.bind (he hd r r' hr) ?_
        rintro ⟨m, r⟩ ⟨m', r'⟩ ⟨hm, hr⟩
        refine Rel.bind (take_rel _ (by decide +kernel) hr) ?_
        rintro ⟨_, r⟩ ⟨_, r'⟩ ⟨_, hr⟩
        exact Rel.ok ⟨by simp only at hn hm; simp only [bareT, bareTs, hn, hm], hr⟩
    rw [if_neg c3, if_neg c3]
    by_cases c5 : 1 ≤ tyX t.x ∧ tyX t.x ≤ 4
    · rw [if_pos c5, if_pos c5]
      refine Rel.bind (opn_rel d d' h hs) ?_
      rintro ⟨_, r⟩ ⟨_, r'⟩ ⟨⟨_, hr⟩, hd⟩
      refine Rel.bind (take_rel _ (by decide +kernel) hr) ?_
      rintro ⟨_, r⟩ ⟨_, r'⟩ ⟨_, hr⟩
      refine Rel.bind (he hd r r' hr) ?_
      rintro ⟨n, r⟩ ⟨n', r'⟩ ⟨hn, hr⟩
      refine Rel.bind (take_rel _ (by decide +kernel) hr) ?_
      rintro ⟨_, r⟩ ⟨_, r'⟩ ⟨_, hr⟩
      exact Rel.ok ⟨by simp only at hn; simp only [bareT, bareTs, hn], hr⟩
    rw [if_neg c5, if_neg c5]
    by_cases c6 : fieldX t.x ≠ 0
    · rw [if_pos c6, if_pos c6]
      exact Rel.ok ⟨by simp only [bareT, bareTs], hs⟩
    rw [if_neg c6, if_neg c6]
    by_cases c7 : t.k = 2
    · rw [if_pos c7, if_pos c7]
      exact Rel.ok ⟨by simp only [bareT, bareTs], hs⟩
    rw [if_neg c7, if_neg c7]
    exact lit_sim t u ts us h hs
theorem un_sim {ex ex' un un' : List Tk → Except Ft (Tr × List Tk)} (d d' : Nat) (he : d' < 24 → Sim ex ex') (hu : d' < 24 → Sim un un') : Sim (gUn ex un d) (gUn ex' un' d') := by
  intro ts us h
  cases h with
  | fin e f g h1 h2 h3 f1 g1 g2 =>
    unfold gUn gLook
    show Rel PT (if unX e.x = 0 then _ else _) _
    rw [h1, if_pos (show unX gE = 0 by decide +kernel), one_end ex d e h1 h2 h3]
    exact Rel.err
  | cons t u ts us h hs =>
    unfold gUn gLook
    show Rel PT (if unX t.x = 0 then _ else _) (if unX u.x = 0 then _ else _)
    rw [h.2.1]
    by_cases c : unX t.x = 0
    · rw [if_pos c, if_pos c]
      exact one_sim d d' he _ _ (.cons t u ts us h hs)
    · rw [if_neg c, if_neg c]
      refine Rel.bind (opn_rel d d' h hs) ?_
      rintro ⟨_, r⟩ ⟨_, r'⟩ ⟨⟨_, hr⟩, hd⟩
      refine Rel.bind (hu hd r r' hr) ?_
      rintro ⟨n, r⟩ ⟨n', r'⟩ ⟨hn, hr⟩
      exact Rel.ok ⟨by simp only at hn; simp only [bareT, bareTs, hn], hr⟩
theorem ex_sim {ex ex' un un' : List Tk → Except Ft (Tr × List Tk)} (d d' : Nat) (he : d' < 24 → Sim ex ex') (hu : d' < 24 → Sim un un') : Sim (gEx ex un d) (gEx ex' un' d') := by
  intro ts us h
  unfold gEx
  refine Rel.bind (row_sim orX (by decide +kernel) (by decide +kernel) (row_sim andX (by decide +kernel) (by decide +kernel) (row_sim cmpX (by decide +kernel) (by decide +kernel) (row_sim sumX (by decide +kernel) (by decide +kernel) (row_sim proX (by decide +kernel) (by decide +kernel) (un_sim d d' he hu) 4096) 4096) 1) 4096) 4096 ts us h) ?_
  rintro ⟨n, r⟩ ⟨n', r'⟩ ⟨hn, hr⟩
  cases hr with
  | fin e f g h1 h2 h3 f1 g1 g2 =>
    unfold gIs gLook
    simp only [Except.map, bind, Except.bind, h1, f1]
    rw [show decide (gE = gB [63]) = false by decide +kernel, show decide (gB [41] = gB [63]) = false by decide +kernel]
    exact Rel.ok ⟨hn, .fin e f g h1 h2 h3 f1 g1 g2⟩
  | cons t u ts us h hs =>
    unfold gIs gLook
    simp only [Except.map, h.2.1]
    by_cases c : t.x = gB [63]
    · rw [decide_eq_true c]
      refine Rel.bind (A := fun a b : Bool => a = true ∧ b = true) (Rel.ok ⟨rfl, rfl⟩) ?_
      rintro _ _ ⟨rfl, rfl⟩
      refine Rel.bind (opn_rel d d' h hs) ?_
      rintro ⟨_, r⟩ ⟨_, r'⟩ ⟨⟨_, hr⟩, hd⟩
      refine Rel.bind (he hd r r' hr) ?_
      rintro ⟨y, r⟩ ⟨y', r'⟩ ⟨hy, hr⟩
      refine Rel.bind (take_rel _ (by decide +kernel) hr) ?_
      rintro ⟨_, r⟩ ⟨_, r'⟩ ⟨_, hr⟩
      refine Rel.bind (he hd r r' hr) ?_
      rintro ⟨z, r⟩ ⟨z', r'⟩ ⟨hz, hr⟩
      exact Rel.ok ⟨by simp only at hn hy hz; simp only [bareT, bareTs, hn, hy, hz], hr⟩
    · rw [decide_eq_false c]
      exact Rel.ok ⟨hn, .cons t u ts us h hs⟩
theorem F_sim : ∀ n d, n + d = 24 → Sim (exF (n + 2) d) (exF (n + 1) (d + 1)) ∧ Sim (unF (n + 2) d) (unF (n + 1) (d + 1)) := by
  have e1 : ∀ f d, exF (f + 1) d = gEx (exF f (d + 1)) (unF f (d + 1)) d := fun f d => by funext ts; rw [exF]
  have e2 : ∀ f d, unF (f + 1) d = gUn (exF f (d + 1)) (unF f (d + 1)) d := fun f d => by funext ts; rw [unF]
  intro n
  induction n with
  | zero =>
    intro d hd
    refine ⟨?_, ?_⟩
    · rw [e1, e1]; exact ex_sim d (d + 1) (fun h => by omega) (fun h => by omega)
    · rw [e2, e2]; exact un_sim d (d + 1) (fun h => by omega) (fun h => by omega)
  | succ n ih =>
    intro d hd
    obtain ⟨i1, i2⟩ := ih (d + 1) (by omega)
    refine ⟨?_, ?_⟩
    · rw [e1, e1]; exact ex_sim d (d + 1) (fun _ => i1) (fun _ => i2)
    · rw [e2, e2]; exact un_sim d (d + 1) (fun _ => i1) (fun _ => i2)
/-- A reading from nest 0, and the same from nest 1. -/
theorem exprT_in {ts us : List Tk} (h : Ls ts us) : Rel PT (exprT ts) (exF 25 1 us) := (F_sim 24 0 rfl).1 ts us h
end Go.Proofs.YtkfabnchhjfjjabGreatDoor
