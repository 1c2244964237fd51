/-
  one, and with it every expression: the induction on the levels left.
-/
import Derived.Test.YtkfabnchhjfjjabGreatDoorRo1
namespace Go.Proofs.YtkfabnchhjfjjabGreatDoor
open Go.RowKit
theorem gOne_s (ex : List Tk → Except Ft (Tr × List Tk)) (d : Nat) (t : Tk) (ts : List Tk) : gOne ex d (t :: ts) =
    if (t.x.toList == [40]) = true then gBrk ex d (t :: ts)
    else if (t.x.toList == [104, 97, 115]) = true then gHas (t :: ts)
    else if callX t.x ≠ 0 then gCall ex d (t :: ts)
    else if 1 ≤ tyX t.x ∧ tyX t.x ≤ 4 then gConv ex d (t :: ts)
    else if fieldX t.x ≠ 0 then .ok (.mk ⟨3, 0, 0, 0, fieldX t.x, gE, t.p⟩ [], ts)
    else if t.k = 2 then .ok (.mk ⟨2, 0, 0, 0, 0, t.x, t.p⟩ [], ts)
    else gLit (t :: ts) := by
  have hh : ∀ (e : Ft), (Except.error e : Except Ft (Tr × List Tk)) = .error e := fun _ => rfl
  unfold gOne
  simp only [gLook, bind, Except.bind, eqX]
  by_cases h1 : (t.x.toList == [40]) = true
  · simp only [h1, if_true]
    unfold gBrk gIn
    cases gOpn d (t :: ts) with
    | error e => rfl
    | ok q =>
      simp only [bind, Except.bind]
  simp only [h1]
  by_cases h2 : (t.x.toList == [104, 97, 115]) = true
  · simp only [h2, if_true]
    unfold gHas
    simp only [bind, Except.bind]
    rfl
  simp only [h2]
  by_cases h3 : callX t.x ≠ 0
  · rw [if_pos h3]
    simp only [Bool.false_eq_true, if_false]
    rw [if_pos h3]
    unfold gCall gCallM gIn
    cases h4 : gOpn d (t :: ts) with
    | error e => rfl
    | ok q =>
      obtain ⟨u, r⟩ := q
      obtain ⟨rfl, rfl⟩ : t = u ∧ ts = r := by have := gOpn_mem h4; cases this; exact ⟨rfl, rfl⟩
      simp only
      cases gTake (gB [40]) ts with
      | error e => rfl
      | ok q =>
        simp only
        by_cases h5 : callX t.x = 3
        · simp only [h5, if_true, bind, Except.bind]
          cases ex q.2 with
          | error e => rfl
          | ok q =>
            simp only
            cases gTake (gB [41]) q.2 with
            | error e => rfl
            | ok q => rfl
        · simp only [if_neg h5, bind, Except.bind]
          cases ex q.2 with
          | error e => rfl
          | ok q =>
            simp only
            cases gTake (gB [44]) q.2 with
            | error e => rfl
            | ok q =>
              simp only
              cases ex q.2 with
              | error e => rfl
              | ok q =>
                simp only
                cases gTake (gB [41]) q.2 with
                | error e => rfl
                | ok q => rfl
  simp only [Bool.false_eq_true, if_false, if_neg h3]
  by_cases h4 : 1 ≤ tyX t.x ∧ tyX t.x ≤ 4
  · rw [if_pos h4, if_pos h4]
    unfold gConv gIn
    cases h5 : gOpn d (t :: ts) with
    | error e => rfl
    | ok q =>
      obtain ⟨u, r⟩ := q
      obtain ⟨rfl, rfl⟩ : t = u ∧ ts = r := by have := gOpn_mem h5; cases this; exact ⟨rfl, rfl⟩
      simp only
      cases gTake (gB [40]) ts with
      | error e => rfl
      | ok q =>
        simp only [bind, Except.bind]
        cases ex q.2 with
        | error e => rfl
        | ok q =>
          simp only
          cases gTake (gB [41]) q.2 with
          | error e => rfl
          | ok q => rfl
  rw [if_neg h4, if_neg h4]
  by_cases h5 : fieldX t.x ≠ 0
  · rw [if_pos h5, if_pos h5]; rfl
  rw [if_neg h5, if_neg h5]
  by_cases h6 : t.k = 2
  · rw [if_pos h6, if_pos h6]; rfl
  rw [if_neg h6, if_neg h6]
set_option maxRecDepth 100000 in
theorem one_any (ex : List Tk → Except Ft (Tr × List Tk)) (hS : Subs ex) {w : World} {b G : Nat} {ts : List Tk} {fa : Int} {fe : Value} {d : Nat} {a : Option Addr} {c : Nat} (h : Rdr w b G ts fa fe d a c) (hT : ∀ x ∈ ts, RgT x) (hd : d < 1000)
    (cE : d < 24 → ∀ v ts a c, Rdr v b G ts fa fe (d + 1) a c → (∀ t ∈ ts, RgT t) → Calls Tryz.prog 20 #[.pointer (some ⟨b, 0, none⟩)] v (OutN b G fa fe (d + 1) v (ex ts))) :
    Calls Tryz.prog 118 #[.pointer (some ⟨b, 0, none⟩)] w (OutN b G fa fe d w (gOne ex d ts)) := by
  cases ts with
  | nil =>
    have hb0 := below_new w (.cells #[.int .u8 0, .int .u8 0, .int .u8 0, .int .i64 0, .int .u8 0, .string ⟨#[]⟩, .slice none 0 0, .int .i64 0] 52)
    have cL := look_no (h.on hb0)
    have HB0 : Hid (Below w.heap.size w (w.alloc (.cells #[.int .u8 0, .int .u8 0, .int .u8 0, .int .i64 0, .int .u8 0, .string ⟨#[]⟩, .slice none 0 0, .int .i64 0] 52))) := hb0
    have eG : gOne ex d [] = .error .lex := by simp [gOne, gLook, bind, Except.bind]
    rw [eG]
    clear cE h hb0 eG
    go_enter Tryz.func118, Tryz.ntmps118
    go_wp2_with fail
    refine cL.mono ?_
    rintro e w1 ⟨rfl, hb⟩
    exact ⟨rfl, rfl, Mv.ofBelow (below2 HB0.out hb)⟩
  | cons t ts =>
    rw [gOne_s]
    by_cases h1 : (t.x.toList == [40]) = true
    · rw [if_pos h1]; exact one_brk ex hS h hT hd h1 cE
    rw [if_neg h1]
    have h1 : (t.x.toList == [40]) = false := by simpa using h1
    by_cases h2 : (t.x.toList == [104, 97, 115]) = true
    · rw [if_pos h2]; exact one_has ex hS h hT hd h1 h2 cE
    rw [if_neg h2]
    have h2 : (t.x.toList == [104, 97, 115]) = false := by simpa using h2
    by_cases h3 : callX t.x ≠ 0
    · rw [if_pos h3]; exact one_call ex hS h hT hd h1 h2 h3 cE
    rw [if_neg h3]
    have h3 : callX t.x = 0 := Classical.not_not.1 h3
    by_cases h4 : 1 ≤ tyX t.x ∧ tyX t.x ≤ 4
    · rw [if_pos h4]; exact one_conv ex hS h hT hd h1 h2 h3 h4 cE
    rw [if_neg h4]
    by_cases h5 : fieldX t.x ≠ 0
    · rw [if_pos h5]; exact one_field ex hS h hT hd h1 h2 h3 h4 h5 cE
    rw [if_neg h5]
    have h5 : fieldX t.x = 0 := Classical.not_not.1 h5
    by_cases h6 : t.k = 2
    · rw [if_pos h6]; exact one_name ex hS h hT hd h1 h2 h3 h4 h5 h6 cE
    rw [if_neg h6]
    exact one_lit ex hS h hT hd h1 h2 h3 h4 h5 h6 cE
/-- Every expression, at every nest: f levels may still be gone down. -/
theorem ex_all (b G : Nat) (fa : Int) (fe : Value) : ∀ (f d : Nat), 25 ≤ f + d → d < 1000 →
    (∀ v ts a c, Rdr v b G ts fa fe d a c → (∀ t ∈ ts, RgT t) → Calls Tryz.prog 115 #[.pointer (some ⟨b, 0, none⟩)] v (OutN b G fa fe d v (unF (f + 1) d ts))) ∧
    (∀ v ts a c, Rdr v b G ts fa fe d a c → (∀ t ∈ ts, RgT t) → Calls Tryz.prog 20 #[.pointer (some ⟨b, 0, none⟩)] v (OutN b G fa fe d v (exF (f + 1) d ts))) := by
  intro f
  induction f with
  | zero =>
    intro d h1 h2
    have s := exF_sub 0 (d + 1)
    exact ex_step (exF 0 (d + 1)) (unF 0 (d + 1)) s.1 s.2 h2 (fun v ts a c h hT => one_any _ s.1 h hT h2 (fun h24 => by omega)) (fun h24 => by omega) (fun h24 => by omega)
  | succ f ih =>
    intro d h1 h2
    have s := exF_sub (f + 1) (d + 1)
    have cE : d < 24 → ∀ v ts a c, Rdr v b G ts fa fe (d + 1) a c → (∀ t ∈ ts, RgT t) → Calls Tryz.prog 20 #[.pointer (some ⟨b, 0, none⟩)] v (OutN b G fa fe (d + 1) v (exF (f + 1) (d + 1) ts)) := fun h24 => (ih (d + 1) (by omega) (by omega)).2
    have cU : d < 24 → ∀ v ts a c, Rdr v b G ts fa fe (d + 1) a c → (∀ t ∈ ts, RgT t) → Calls Tryz.prog 115 #[.pointer (some ⟨b, 0, none⟩)] v (OutN b G fa fe (d + 1) v (unF (f + 1) (d + 1) ts)) := fun h24 => (ih (d + 1) (by omega) (by omega)).1
    exact ex_step (exF (f + 1) (d + 1)) (unF (f + 1) (d + 1)) s.1 s.2 h2 (fun v ts a c h hT => one_any _ s.1 h hT h2 cE) cU cE
/-- A whole expression. -/
theorem exprT_any {w : World} {b G : Nat} {ts : List Tk} {fa : Int} {fe : Value} {a : Option Addr} {c : Nat} (h : Rdr w b G ts fa fe 0 a c) (hT : ∀ t ∈ ts, RgT t) : Calls Tryz.prog 20 #[.pointer (some ⟨b, 0, none⟩)] w (OutN b G fa fe 0 w (exprT ts)) :=
  (ex_all b G fa fe 25 0 (by omega) (by omega)).2 w ts a c h hT
end Go.Proofs.YtkfabnchhjfjjabGreatDoor
