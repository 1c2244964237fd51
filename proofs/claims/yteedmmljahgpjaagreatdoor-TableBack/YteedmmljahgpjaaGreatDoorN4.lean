import Derived.Test.YteedmmljahgpjaaGreatDoorM37
import Derived.Test.YteedmmljahgpjaaGreatDoorM15
import Derived.Test.YteedmmljahgpjaaGreatDoorN3
import Derived.Test.YteedmmljahgpjaaGreatDoorM26
/-
  Every instruction of a table that may be stands in a span.
-/
namespace Go.Proofs.YteedmmljahgpjaaGreatDoor
open Go.RowKit
set_option linter.unusedVariables false
set_option linter.unusedSimpArgs false
def Cov (t : TbM) (p q : Int) : Prop := ∀ j : Nat, p ≤ j → (j : Int) < q → ∃ b : Nat, (b : Int) ≤ q ∧ standB t (t.ds.getD j ⟨0, 0⟩) j b = true
theorem Cov.trans {t : TbM} {p m q : Int} (h : Cov t p m) (k : Cov t m q) (hm : m ≤ q) : Cov t p q := fun j h1 h2 => by
  by_cases e : (j : Int) < m
  · obtain ⟨b, h3, h4⟩ := h j h1 e
    exact ⟨b, by omega, h4⟩
  · exact k j (by omega) h2
theorem Cov.nil {t : TbM} (p : Int) : Cov t p p := fun j h1 h2 => by omega
theorem sp_cov {t : TbM} {x : Sp} (h0 : 0 ≤ x.f) (h1 : x.f < x.t) (h : spD t x = 0) : Cov t x.f x.t := fun j h2 h3 => by
  unfold spD spanE at h
  cases hs : standsL t x.t.toNat (x.t.toNat - x.f.toNat) x.f.toNat with
  | false => rw [hs] at h; simp at h
  | true => exact ⟨x.t.toNat, by omega, standsL_all _ _ hs j (by omega) (by omega)⟩
theorem sps_cov {t : TbM} : ∀ (l : List Sp) (p q : Int), 0 ≤ p → liesN p l = some q → spsD t l = 0 → Cov t p q
  | [], p, q, _, h, _ => by simp [liesN] at h; subst h; exact Cov.nil p
  | x :: l, p, q, hp, h, e => by
    obtain ⟨h1, h2, h3⟩ := lies_cons h
    subst h1
    simp only [spsD] at e
    split at e
    · rename_i ez
      exact (sp_cov hp h2 (by simpa using ez)).trans (sps_cov l x.t q (by omega) h3 e) (lies_le _ _ _ h3)
    · rename_i ez
      rw [e] at ez
      simp at ez
theorem rws_cov {t : TbM} : ∀ (l : List RowM) (p q : Int), 0 ≤ p → liesN p (l.map hasL).flatten = some q → rwsD t l = 0 → Cov t p q
  | [], p, q, _, h, _ => by simp [liesN] at h; subst h; exact Cov.nil p
  | r :: l, p, q, hp, h, e => by
    rw [List.map_cons, List.flatten_cons, liesN_app] at h
    obtain ⟨m, hm1, hm2⟩ := Option.bind_eq_some_iff.1 h
    have hle := lies_le _ _ _ hm1
    simp only [rwsD] at e
    split at e
    · rename_i ez
      exact (sps_cov _ p m hp hm1 (by simpa using ez)).trans (rws_cov l m q (by omega) hm2 e) (lies_le _ _ _ hm2)
    · rename_i ez
      rw [e] at ez
      simp at ez
theorem gd_cov {t : TbM} {sl : Int} {nr ns : Nat} (g : GdM) (p q : Int) (hp : 0 ≤ p) (h : gdN sl nr ns g p = some q) (e : gdD t g = 0) : Cov t p q := by
  unfold gdN at h
  split at h
  · unfold gSp at h
    obtain ⟨h1, h2, h3⟩ := lies_cons h
    subst h1
    unfold gdD at e
    split at e
    · rename_i ez
      split at e
      · split at e
        · exact (sp_cov hp h2 (by simpa using ez)).trans (rws_cov g.rs g.wh.t q (by omega) h3 e) (lies_le _ _ _ h3)
        · cases e
      · cases e
    · rename_i ez
      rw [e] at ez
      simp at ez
  · cases h
theorem gds_cov {t : TbM} {sl : Int} {nr ns : Nat} : ∀ (l : List GdM) (p q : Int), 0 ≤ p → gdsN sl nr ns p l = some q → gdsD t l = 0 → Cov t p q ∧ p ≤ q
  | [], p, q, _, h, _ => by simp [gdsN] at h; subst h; exact ⟨Cov.nil p, Int.le_refl _⟩
  | g :: l, p, q, hp, h, e => by
    simp only [gdsN] at h
    obtain ⟨m, hm1, hm2⟩ := Option.bind_eq_some_iff.1 h
    have hle := gd_le hm1
    simp only [gdsD] at e
    split at e
    · rename_i ez
      obtain ⟨h1, h2⟩ := gds_cov (t := t) l m q (by omega) hm2 e
      exact ⟨(gd_cov g p m hp hm1 (by simpa using ez)).trans h1 h2, by omega⟩
    · rename_i ez
      rw [e] at ez
      simp at ez
theorem sts_cov {t : TbM} {sl : Int} {nr ns : Nat} : ∀ (l : List StM) (p q : Int), 0 ≤ p → stsN sl nr ns p l = some q → stsD t l = 0 → Cov t p q ∧ p ≤ q
  | [], p, q, _, h, _ => by simp [stsN] at h; subst h; exact ⟨Cov.nil p, Int.le_refl _⟩
  | s :: l, p, q, hp, h, e => by
    simp only [stsN] at h
    split at h
    · cases h
    · obtain ⟨m, hm1, hm2⟩ := Option.bind_eq_some_iff.1 h
      simp only [stsD] at e
      split at e
      · rename_i ez
        obtain ⟨h1, h2⟩ := gds_cov (t := t) s.gs p m hp hm1 (by simpa using ez)
        obtain ⟨h3, h4⟩ := sts_cov (t := t) l m q (by omega) hm2 e
        exact ⟨h1.trans h3 h4, by omega⟩
      · rename_i ez
        rw [e] at ez
        simp at ez
theorem stand_a {t : TbM} {d : InM} {a b : Nat} (h : standB t d a b = true) (hr : t.rs.length ≤ 12) (hc : t.cs.length ≤ 1024) (hb : b ≤ 4096) : 1 ≤ d.k ∧ d.k ≤ 9 ∧ 0 ≤ d.a ∧ d.a ≤ 4096 := by
  unfold standB withinB at h
  by_cases e1 : d.k = 1
  · simp [e1] at h; omega
  by_cases e2 : d.k = 2
  · simp [e2] at h; omega
  by_cases e3 : d.k = 3
  · simp [e3] at h; omega
  by_cases e4 : d.k = 4
  · simp [e4] at h; omega
  by_cases e5 : d.k = 5
  · simp [e5] at h; omega
  by_cases e6 : d.k = 6
  · simp [e6] at h; omega
  by_cases e7 : d.k = 7
  · simp [e7] at h; omega
  by_cases e8 : d.k = 8
  · simp [e8] at h; omega
  by_cases e9 : d.k = 9
  · simp [e9] at h; omega
  · simp [e1, e2, e3, e4, e5, e6, e7, e8, e9] at h
/-- Every instruction of a table that may be names a number from 0 to 4096. -/
theorem ins_a {t : TbM} (h : checkE t = 0) : ∀ d ∈ t.ds, 1 ≤ d.k ∧ d.k ≤ 9 ∧ 0 ≤ d.a ∧ d.a ≤ 4096 := by
  have hf : formB t = true := check_form (by rw [h]; rfl)
  obtain ⟨⟨hr, hc, hd⟩, _⟩ := form_w hf
  rw [checkD_eq, hf, if_pos rfl] at h
  unfold formB at hf
  simp only [Bool.and_eq_true] at hf
  have he := hf.2
  unfold endB at he
  split at he
  · rename_i q hq
    have hq2 : q = (t.ds.length : Int) := by simpa using he
    have hcov := (sts_cov (t := t) t.ts 0 q (Int.le_refl _) hq h).1
    intro d hdm
    obtain ⟨i, hi, rfl⟩ := List.getElem_of_mem hdm
    obtain ⟨b, h1, h2⟩ := hcov i (by omega) (by omega)
    rw [show t.ds.getD i ⟨0, 0⟩ = t.ds[i] by rw [List.getD_eq_getElem?_getD, List.getElem?_eq_getElem hi]; rfl] at h2
    exact stand_a h2 hr hc (by omega)
  · cases he
end Go.Proofs.YteedmmljahgpjaaGreatDoor

/-
  What was written is read again: numbers, lists, instructions, rows.
-/
namespace Go.Proofs.YteedmmljahgpjaaGreatDoor
open Go.RowKit
set_option linter.unusedVariables false
set_option linter.unusedSimpArgs false
/-- From a place on there stands m. -/
def Rs (l : List UInt8) (p : Int) (m : List UInt8) : Prop := ∃ pre, l = pre ++ m ∧ p = (pre.length : Int)
theorem num_rs {l m : List UInt8} {p n : Int} (h : Rs l p (W.put1 n.toNat ++ m)) (h0 : 0 ≤ n) (h1 : n ≤ 18446744073709551615) : ∃ p', numR l p = some (n, p') ∧ Rs l p' m := by
  obtain ⟨pre, rfl, rfl⟩ := h
  obtain ⟨t1, t2, t3⟩ := W.take_put pre m n.toNat (by omega)
  rw [List.append_assoc] at t1 t2 t3
  refine ⟨((pre ++ W.put1 n.toNat).length : Int), ?_, ⟨pre ++ W.put1 n.toNat, by rw [List.append_assoc], rfl⟩⟩
  unfold numR
  rw [if_pos t1, t2, t3]
  congr 2
  omega
theorem upto_rs {l m : List UInt8} {p n k : Int} (h : Rs l p (W.put1 n.toNat ++ m)) (h0 : 0 ≤ n) (h1 : n ≤ k) (h2 : k ≤ 18446744073709551615) : ∃ p', uptoR k l p = some (n, p') ∧ Rs l p' m := by
  obtain ⟨p', e, hr⟩ := num_rs h h0 (by omega)
  refine ⟨p', ?_, hr⟩
  unfold uptoR
  rw [e]
  simp [h1]
theorem sign_rs {l m : List UInt8} {p n : Int} (h : Rs l p (W.put1 (W.zigN n).toNat ++ m)) (hi : I64 n) : ∃ p', signR l p = some (n, p') ∧ Rs l p' m := by
  have hb := W.zigN_bd n hi.1 hi.2
  obtain ⟨p', e, hr⟩ := num_rs h hb.1 hb.2
  refine ⟨p', ?_, hr⟩
  unfold signR
  rw [e]
  simp [W.zag_zig]
theorem ints_rs {l m : List UInt8} : ∀ (xs : List Int) (p : Int), (∀ n ∈ xs, I64 n) → Rs l p ((xs.map (fun n => W.put1 (W.zigN n).toNat)).flatten ++ m) → ∃ p', intsR l xs.length p = some (xs, p') ∧ Rs l p' m
  | [], p, _, h => ⟨p, rfl, h⟩
  | n :: xs, p, hi, h => by
    rw [List.map_cons, List.flatten_cons, List.append_assoc] at h
    obtain ⟨p1, e1, h1⟩ := sign_rs h (hi n (List.mem_cons_self ..))
    obtain ⟨p2, e2, h2⟩ := ints_rs xs p1 (fun k hk => hi k (List.mem_cons_of_mem _ hk)) h1
    refine ⟨p2, ?_, h2⟩
    simp only [List.length_cons, intsR, e1, Option.bind_some, e2, Option.map_some]
theorem instr_rs {l m : List UInt8} {p : Int} {d : InM} (hd : 1 ≤ d.k ∧ d.k ≤ 9 ∧ 0 ≤ d.a ∧ d.a ≤ 4096) (h : Rs l p (W.put1 d.k.toNat ++ (W.put1 d.a.toNat ++ m))) : ∃ p', instrR l p = some (d, p') ∧ Rs l p' m := by
  obtain ⟨p1, e1, h1⟩ := upto_rs h (by omega) hd.2.1 (by omega)
  obtain ⟨p2, e2, h2⟩ := upto_rs h1 hd.2.2.1 hd.2.2.2 (by omega)
  refine ⟨p2, ?_, h2⟩
  unfold instrR
  rw [e1, Option.bind_some, e2]
  rfl
theorem ins_rs {l m : List UInt8} : ∀ (ds : List InM) (p : Int), (∀ d ∈ ds, 1 ≤ d.k ∧ d.k ≤ 9 ∧ 0 ≤ d.a ∧ d.a ≤ 4096) → Rs l p (pL (((ds.map inZ).flatten).map u64) ++ m) → ∃ p', insR l ds.length p = some (ds, p') ∧ Rs l p' m
  | [], p, _, h => ⟨p, rfl, h⟩
  | d :: ds, p, hd, h => by
    have hd0 := hd d (List.mem_cons_self ..)
    have hk : u64 d.k = d.k := by unfold u64; omega
    have ha : u64 d.a = d.a := by unfold u64; omega
    have e : pL ((((d :: ds).map inZ).flatten).map u64) ++ m = W.put1 d.k.toNat ++ (W.put1 d.a.toNat ++ (pL (((ds.map inZ).flatten).map u64) ++ m)) := by
      rw [List.map_cons, List.flatten_cons]
      unfold inZ pL
      simp [hk, ha]
    rw [e] at h
    obtain ⟨p1, e1, h1⟩ := instr_rs hd0 h
    obtain ⟨p2, e2, h2⟩ := ins_rs ds p1 (fun k hk => hd k (List.mem_cons_of_mem _ hk)) h1
    refine ⟨p2, ?_, h2⟩
    simp only [List.length_cons, insR, e1, Option.bind_some, e2, Option.map_some]
/-- The spans that are there. -/
def prs : List Bool → List Sp → List Sp
  | b :: bs, x :: xs => if b then x :: prs bs xs else prs bs xs
  | _, _ => []
theorem spR_0 (q : RS) : spR q 0 = q := by unfold spR; simp
theorem len_rs {l m : List UInt8} {p : Int} {q : RS} {x : Sp} (h : Rs l p (W.put1 x.len.toNat ++ m)) (hf : x.f = q.sp) (h0 : 0 ≤ x.len) (h1 : x.len ≤ 4096) : ∃ p', lenR q l p = some (x, spR q x.len, p') ∧ Rs l p' m := by
  obtain ⟨p1, e1, h2⟩ := upto_rs h h0 h1 (by omega)
  refine ⟨p1, ?_, h2⟩
  unfold lenR
  rw [e1]
  have hx : (⟨q.sp, q.sp + x.len⟩ : Sp) = x := by
    obtain ⟨f, t⟩ := x
    simp only at hf
    unfold Sp.len
    rw [← hf]
    simp
    omega
  simp [hx]
theorem sps_rs {l m : List UInt8} : ∀ (bs : List Bool) (xs : List Sp) (q : RS) (p z : Int), bs.length = xs.length → (∀ i (h1 : i < bs.length) (h2 : i < xs.length), bs[i] = false → xs[i] = sp0) → liesN q.sp (prs bs xs) = some z → (∀ x ∈ prs bs xs, x.len ≤ 4096) → Rs l p (pL ((prs bs xs).map Sp.len) ++ m) →
    ∃ p', spsR bs q l p = some (xs, spR q (z - q.sp), p') ∧ Rs l p' m
  | [], [], q, p, z, _, _, hz, _, h => by
    simp [prs, liesN] at hz
    subst hz
    refine ⟨p, ?_, h⟩
    simp only [spsR]
    rw [Int.sub_self, spR_0]
  | true :: bs, x :: xs, q, p, z, hl, hn, hz, hb, h => by
    have e : prs (true :: bs) (x :: xs) = x :: prs bs xs := rfl
    rw [e] at hz hb h
    obtain ⟨h1, h2, h3⟩ := lies_cons hz
    have hx := hb x (List.mem_cons_self ..)
    have e2 : pL ((x :: prs bs xs).map Sp.len) ++ m = W.put1 x.len.toNat ++ (pL ((prs bs xs).map Sp.len) ++ m) := by
      unfold pL
      simp
    rw [e2] at h
    obtain ⟨p1, e1, hr⟩ := len_rs h h1 (by unfold Sp.len; omega) hx
    have hsp : (spR q x.len).sp = x.t := by unfold spR Sp.len; simp only; omega
    obtain ⟨p2, e3, hr2⟩ := sps_rs bs xs (spR q x.len) p1 z (by simpa using hl) (fun i h1 h2 hf => hn (i + 1) (by simpa using h1) (by simpa using h2) hf) (by rw [hsp]; exact h3) (fun y hy => hb y (List.mem_cons_of_mem _ hy)) hr
    refine ⟨p2, ?_, hr2⟩
    simp only [spsR, if_true, e1, Option.bind_some, e3, Option.map_some]
    congr 3
    unfold spR Sp.len
    simp only
    congr 1
    omega
  | false :: bs, x :: xs, q, p, z, hl, hn, hz, hb, h => by
    have e : prs (false :: bs) (x :: xs) = prs bs xs := rfl
    rw [e] at hz hb h
    have hx : x = sp0 := hn 0 (by simp) (by simp) rfl
    obtain ⟨p2, e3, hr2⟩ := sps_rs bs xs q p z (by simpa using hl) (fun i h1 h2 hf => hn (i + 1) (by simpa using h1) (by simpa using h2) hf) hz hb h
    refine ⟨p2, ?_, hr2⟩
    simp only [spsR, Bool.false_eq_true, if_false, e3, Option.map_some, hx]
  | [], _ :: _, _, _, _, hl, _, _, _, _ => by simp at hl
  | _ :: _, [], _, _, _, hl, _, _, _, _ => by simp at hl
end Go.Proofs.YteedmmljahgpjaaGreatDoor

/-
  What was written is read again: rows, guards, states.
-/
namespace Go.Proofs.YteedmmljahgpjaaGreatDoor
open Go.RowKit
set_option linter.unusedVariables false
set_option linter.unusedSimpArgs false
theorem has_prs (r : RowM) : hasL r = prs (prts (partsN r.k r.o)) (spL r) := by
  obtain ⟨p, ep⟩ : ∃ p, partsN r.k r.o = p := ⟨_, rfl⟩
  rw [← hasR_0]
  unfold hasR
  rw [ep]
  obtain ⟨a, b, c, d⟩ := p
  cases a <;> cases b <;> cases c <;> cases d <;> rfl
theorem row_none {r : RowM} (h : rowPB r 4 = true) : ∀ i (h1 : i < (prts (partsN r.k r.o)).length) (h2 : i < (spL r).length), (prts (partsN r.k r.o))[i] = false → (spL r)[i] = sp0 := by
  intro i h1 h2 hf
  have hi : i < 4 := h2
  cases hp : partB ((prts (partsN r.k r.o)).getD i false) ((spL r).getD i ⟨0, 0⟩) with
  | false => rw [rowPB_f r i hi hp] at h; cases h
  | true =>
    have hb : (prts (partsN r.k r.o)).getD i false = false := by rw [List.getD_eq_getElem?_getD, List.getElem?_eq_getElem h1]; exact hf
    have hx : (spL r).getD i ⟨0, 0⟩ = (spL r)[i] := by rw [List.getD_eq_getElem?_getD, List.getElem?_eq_getElem h2]; rfl
    rw [hb, hx] at hp
    generalize (spL r)[i] = f at hp ⊢
    obtain ⟨y1, y2⟩ := f
    unfold partB noneB at hp
    simp at hp
    unfold sp0
    rw [hp.1, hp.2]
structure TzB (t : TbM) : Prop where
  sl : 0 ≤ t.sl ∧ t.sl ≤ 4
  r : t.rs.length ≤ 12
  s : t.ts.length ≤ 12
theorem row_kio {t : TbM} {r : RowM} (hz : TzB t) (hb : rowB t.sl t.rs.length t.ts.length r = true) : (0 ≤ r.k ∧ r.k ≤ 6) ∧ (0 ≤ r.o ∧ r.o ≤ 5) ∧ (0 ≤ r.i ∧ r.i ≤ 12) ∧ rowPB r 4 = true := by
  unfold rowB at hb
  simp only [Bool.and_eq_true] at hb
  obtain ⟨⟨h1, h2⟩, h3⟩ := hb
  obtain ⟨z1, z2, z3⟩ := hz
  unfold idxN withinB at h2
  unfold orderB at h1
  by_cases e1 : r.k = 1
  · simp [e1] at h1 h2; exact ⟨by omega, by omega, by omega, h3⟩
  by_cases e2 : r.k = 2
  · simp [e2] at h1 h2; exact ⟨by omega, by omega, by omega, h3⟩
  by_cases e3 : r.k = 3
  · simp [e3] at h1 h2; exact ⟨by omega, by omega, by omega, h3⟩
  by_cases e4 : r.k = 4
  · simp [e4] at h1 h2; exact ⟨by omega, by omega, by omega, h3⟩
  by_cases e5 : r.k = 5
  · simp [e5] at h1 h2; exact ⟨by omega, by omega, by omega, h3⟩
  by_cases e6 : r.k = 6
  · simp [e6] at h1 h2; exact ⟨by omega, by omega, by omega, h3⟩
  · simp [e1, e2, e3, e4, e5, e6] at h2
    omega
theorem spR_spR (q : RS) (a b : Int) : spR (spR q a) b = spR q (a + b) := by unfold spR; simp only; congr 1; omega
theorem spR_sp (q : RS) (a : Int) : (spR q a).sp = q.sp + a := rfl
theorem row_rs {l m : List UInt8} {t : TbM} {r : RowM} {q : RS} {p z : Int} (hz : TzB t) (hb : rowB t.sl t.rs.length t.ts.length r = true) (hl : liesN q.sp (hasL r) = some z) (hw : ∀ x ∈ hasL r, x.len ≤ 4096) (h : Rs l p (pL (rowZ r) ++ m)) :
    ∃ p', rowR q l p = some (r, spR q (z - q.sp), p') ∧ Rs l p' m := by
  obtain ⟨⟨k0, k1⟩, ⟨o0, o1⟩, ⟨i0, i1⟩, hp⟩ := row_kio hz hb
  have e : pL (rowZ r) ++ m = W.put1 r.k.toNat ++ (W.put1 r.o.toNat ++ (W.put1 r.i.toNat ++ (pL ((hasL r).map Sp.len) ++ m))) := by
    unfold rowZ pL
    simp
  rw [e] at h
  obtain ⟨p1, e1, h1⟩ := upto_rs h k0 k1 (by omega)
  obtain ⟨p2, e2, h2⟩ := upto_rs h1 o0 o1 (by omega)
  obtain ⟨p3, e3, h3⟩ := upto_rs h2 i0 i1 (by omega)
  rw [has_prs] at hl hw h3
  obtain ⟨p4, e4, h4⟩ := sps_rs (prts (partsN r.k r.o)) (spL r) q p3 z rfl (row_none hp) hl hw h3
  refine ⟨p4, ?_, h4⟩
  unfold rowR
  simp only [e1, Option.bind_some, e2, e3, e4, Option.map_some]
  rfl
theorem rows_rs {l m : List UInt8} {t : TbM} (hz : TzB t) : ∀ (rs : List RowM) (q : RS) (p z : Int), (∀ r ∈ rs, rowB t.sl t.rs.length t.ts.length r = true) → (∀ r ∈ rs, ∀ x ∈ hasL r, x.len ≤ 4096) → liesN q.sp (rs.map hasL).flatten = some z → Rs l p (pL (rs.map rowZ).flatten ++ m) →
    ∃ p', listR (stR l) rs.length q p = some (rs, spR q (z - q.sp), p') ∧ Rs l p' m
  | [], q, p, z, _, _, hl, h => by
    simp [liesN] at hl
    subst hl
    refine ⟨p, ?_, h⟩
    simp only [List.length_nil, listR]
    rw [Int.sub_self, spR_0]
  | r :: rs, q, p, z, hb, hw, hl, h => by
    rw [List.map_cons, List.flatten_cons, liesN_app] at hl
    obtain ⟨y, hy1, hy2⟩ := Option.bind_eq_some_iff.1 hl
    rw [List.map_cons, List.flatten_cons, pL_app, List.append_assoc] at h
    obtain ⟨p1, e1, h1⟩ := row_rs hz (hb r (List.mem_cons_self ..)) hy1 (hw r (List.mem_cons_self ..)) h
    obtain ⟨p2, e2, h2⟩ := rows_rs hz rs (spR q (y - q.sp)) p1 z (fun x hx => hb x (List.mem_cons_of_mem _ hx)) (fun x hx => hw x (List.mem_cons_of_mem _ hx)) (by rw [spR_sp, show q.sp + (y - q.sp) = y by omega]; exact hy2) h1
    refine ⟨p2, ?_, h2⟩
    simp only [List.length_cons, listR, stR, e1, Option.bind_some]
    rw [e2]
    simp only [Option.map_some, spR_spR, spR_sp]
    congr 4
    omega
theorem rule_rs {l m : List UInt8} {t : TbM} {g : GdM} {q : RS} {p z : Int} (hz : TzB t) (hg : gdN t.sl t.rs.length t.ts.length g q.sp = some z) (hB : GdB g) (h1 : (readsN t.ds g.wh).1 = g.fd) (h2 : (readsN t.ds g.wh).2 = g.rg) (h : Rs l p (pL (gdZ g) ++ m)) :
    ∃ p', ruleR t.ds l q p = some (plG g, spR q (z - q.sp), p') ∧ Rs l p' m := by
  unfold gdN at hg
  split at hg
  · rename_i hb
    unfold rowsB at hb
    rw [Bool.and_eq_true] at hb
    have hrows := rowsR_all _ _ _ _ hb.2
    unfold gSp at hg
    obtain ⟨f1, f2, f3⟩ := lies_cons hg
    have e : pL (gdZ g) ++ m = W.put1 g.wh.len.toNat ++ (W.put1 ((g.rs.length : Int)).toNat ++ (pL (g.rs.map rowZ).flatten ++ m)) := by
      unfold gdZ
      rw [pL_app]
      unfold pL
      simp
    rw [e] at h
    obtain ⟨b1, b2, b3⟩ := hB
    unfold LenW at b1
    obtain ⟨p1, e1, r1⟩ := len_rs h f1 b1.1 b1.2
    obtain ⟨p2, e2, r2⟩ := upto_rs (k := 8) r1 (by omega) (by omega) (by omega)
    have hsp : (spR q g.wh.len).sp = g.wh.t := by rw [spR_sp, ← f1]; unfold Sp.len; omega
    obtain ⟨p3, e3, r3⟩ := rows_rs hz g.rs (spR q g.wh.len) p2 z hrows (fun r hr x hx => (b3 r hr x hx).2) (by rw [hsp]; exact f3) r2
    refine ⟨p3, ?_, r3⟩
    unfold ruleR
    simp only [e1, Option.bind_some, e2, Int.toNat_natCast, e3, Option.map_some, h1, h2]
    unfold plG
    simp only [spR_spR, hsp]
    congr 4
    rw [← f1]
    unfold Sp.len
    omega
  · cases hg
end Go.Proofs.YteedmmljahgpjaaGreatDoor
