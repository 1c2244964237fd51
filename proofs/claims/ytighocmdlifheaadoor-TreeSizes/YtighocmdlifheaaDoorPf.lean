/-
  The walk of lex.number.
-/
import Derived.Test.YtighocmdlifheaaDoorPe
import Derived.Test.YtighocmdlifheaaDoorPc
import Derived.Test.YtighocmdlifheaaDoorLq
namespace Go.Proofs.YtighocmdlifheaaDoor
open Go.RowKit

/-- The program's number at a place. -/
def pbT (s : ByteArray) (a : Nat) : Tk := if nbE s a = 0 then nbT s a else tkP a
theorem pb_no {s : ByteArray} {a : Nat} (h : nbO s a = none) : Hid (pbT s a = tkP a ∧ nbE s a = 113) := by
  obtain ⟨_, h2⟩ := (nb_no h).out
  exact ⟨by unfold pbT; rw [h2, if_neg (by decide)], h2⟩
theorem pb_yes {s : ByteArray} {a n e : Nat} {ty : Int} (h : nbO s a = some (n, e, ty)) : Hid (pbT s a = ⟨3, s.extract a e, ty, n, a⟩ ∧ nbE s a = 0) := by
  obtain ⟨h1, h2⟩ := (nb_yes h).out
  exact ⟨by unfold pbT; rw [h2, if_pos rfl, h1], h2⟩
def nbM (o : Option Nat) (g bg : Bool) (e : Nat) (ty : Int) : Option (Nat × Nat × Int) := match o with | none => none | some n => if g = true then none else if bg = true then none else some (n, e, ty)
theorem nbM_of {s : ByteArray} {a d e : Nat} (hd : d = a + lead digB (rest s a)) (he : e = if nbTy (rest s d) = 1 then d else d + 1) :
    nbO s a = nbM (wv ((rest s a).take (lead digB (rest s a))) 0) (decide (d - a > 1) && hd0 (rest s a)) (badH (rest s e)) e (nbTy (rest s d)) := by
  rw [nbO_parts s a d e hd he]
  unfold nbM
  cases wv ((rest s a).take (lead digB (rest s a))) 0 with
  | none => rfl
  | some n =>
    simp only
    by_cases h : d - a > 1 ∧ hd0 (rest s a) = true
    · rw [if_pos h, if_pos (by rw [decide_eq_true h.1, h.2]; rfl)]
    · have h2 : (decide (d - a > 1) && hd0 (rest s a)) = false := by
        by_cases h1 : d - a > 1
        · rw [decide_eq_true h1, Bool.true_and]
          cases hh : hd0 (rest s a)
          · rfl
          · exact absurd ⟨h1, hh⟩ h
        · rw [decide_eq_false h1]; rfl
      rw [if_neg h, h2]; rfl
/-- The world of a call that boxes its text and its token. -/
theorem box_two (s : ByteArray) (w : World) : ∃ W, (w.alloc (.cells #[.string s] 9)).alloc (.cells #[.int .u8 0, .string ⟨#[]⟩, .int .u8 0, .int .i64 0, .int .i64 0] 160) = W ∧
    Hid (TkH W (w.heap.size + 1) tk0) ∧ W.cell? ⟨w.heap.size, 0, none⟩ = some (.string s) ∧ Hid (Below w.heap.size w W) ∧ W.heap.size = w.heap.size + 2 := by
  refine ⟨_, rfl, ?_, ?_, below_two w _ _, by rw [size_alloc, size_alloc]⟩
  · show TkH _ _ _
    have := heap_new (w.alloc (.cells #[.string s] 9)) (.cells (tkA tk0) 160)
    rw [size_alloc] at this
    exact this
  · exact cell_of (heap_old (heap_new w (.cells #[.string s] 9)) (by rw [size_alloc]; omega)) 0
set_option maxRecDepth 100000 in
set_option maxHeartbeats 2000000 in
theorem numberp_any (s : ByteArray) (a : Nat) (hs : s.size ≤ 140737488355328) (ha : a < s.size) (hdg : hdB digB (rest s a) = true) (w : World) :
    Calls Tryd.prog 85 #[.string s, .int .i64 a] w fun e w' => e = .returned (.tuple #[.agg (tkA (pbT s a)), .int .i64 (nbE s a)]) ∧ Below w.heap.size w w' := by
  obtain ⟨d, hd⟩ : ∃ d, d = a + lead digB (rest s a) := ⟨_, rfl⟩
  obtain ⟨e, he⟩ : ∃ e, e = if nbTy (rest s d) = 1 then d else d + 1 := ⟨_, rfl⟩
  have hp0 := lead_pos hdg
  have hd1 : a ≤ d := by omega
  have hd2 : d ≤ s.size := by have := lead_le digB (rest s a); rw [rest_len] at this; omega
  have he1 : a ≤ e := by rw [he]; split <;> omega
  have he2 : e ≤ s.size := by
    rw [he]
    by_cases h : nbTy (rest s d) = 1
    · rw [if_pos h]; exact hd2
    · rw [if_neg h]; exact nbTy_nil h
  obtain ⟨x, ex⟩ : ∃ x, s.extract a d = x := ⟨_, rfl⟩
  have hxl : x.data.toList = (rest s a).take (lead digB (rest s a)) := by rw [← ex, hd]; exact ext_list _ _ _
  have hx0 : rest x 0 = (rest s a).take (lead digB (rest s a)) := by rw [← hxl]; unfold rest; simp
  have hxs : x.size = d - a := by rw [← ex]; exact ext_size s a d hd2
  have hx00 : hd0 (rest x 0) = hd0 (rest s a) := by rw [hx0]; exact hd0_take hp0 _
  have hO := nbM_of hd he
  rw [← hx0, ← hx00] at hO
  have cT := typed_any s d hs hd2
  rw [← he] at cT
  have cW := worth_any x (by omega) (fun c hc => by rw [hx0] at hc; exact lead_all _ c hc)
  have cP := isPadded_any x (by omega)
  have cG := isGlued_any s e he2
  obtain ⟨W, eW, HR, hc, HB, hz⟩ := box_two s w
  have cR := reachN_any s a w.heap.size hs (Nat.le_of_lt ha) W hc d hd
  obtain ⟨o, ho⟩ : ∃ o, wv (rest x 0) 0 = o := ⟨_, rfl⟩
  rw [ho] at hO cW
  obtain ⟨ty, hty⟩ : ∃ ty, nbTy (rest s d) = ty := ⟨_, rfl⟩
  rw [hty] at hO cT
  rw [hxs] at cP
  obtain ⟨bp, hbp⟩ : ∃ bp, (decide (d - a > 1) && hd0 (rest x 0)) = bp := ⟨_, rfl⟩
  rw [hbp] at hO cP
  obtain ⟨bg, hbg⟩ : ∃ bg, badH (rest s e) = bg := ⟨_, rfl⟩
  rw [hbg] at hO cG
  have HO : Hid (nbO s a = nbM o bp bg e ty) := hO
  obtain ⟨r0, r1, r2, r3, r4⟩ := HR.out.cells
  obtain ⟨f0, f1, f2, f3, f4⟩ := HR.out.froz
  clear hO hd he hp0 hxl hx0 hx00 ho hty hbp hbg hdg
  cases o with
  | none =>
    have K := pb_no HO.out
    simp only [Option.isSome, wvN] at cW
    clear HO
    go_enter Tryd.func85, Tryd.ntmps85
    go_wp2_with (first | (go_at_call 91; refine cR.mono ?_; rintro _ v ⟨rfl, q⟩; obtain rfl := q.symm) | (go_at_call 95; refine (cT _).mono ?_; rintro _ v ⟨rfl, q⟩; obtain rfl := q.symm) | (go_at_call 96; refine (cW _).mono ?_; rintro _ v ⟨rfl, q⟩; obtain rfl := q.symm) | (go_at_call 97; refine (cP _).mono ?_; rintro _ v ⟨rfl, q⟩; obtain rfl := q.symm) | (go_at_call 98; refine (cG _).mono ?_; rintro _ v ⟨rfl, q⟩; obtain rfl := q.symm))
    exact bodyPost_ret (results_two (p := 4) (u := 5) (ty := 160) rfl _ _ (w.heap.size + 1) 160 (tkA (tkP a)) (0, 0) _ rfl (HR.out.put (tkP a)) Tryd.underlying160 rfl (by kernel_rfl)) rfl ⟨by rw [K.out.1, K.out.2]; rfl, below_put HB.out (by omega) _ _ _ _ _⟩
  | some n =>
    simp only [Option.isSome, wvN] at cW
    cases bp
    · cases bg
      · have K := pb_yes HO.out
        obtain ⟨y, ey⟩ : ∃ y, s.extract a e = y := ⟨_, rfl⟩
        rw [ey] at K
        clear HO
        go_enter Tryd.func85, Tryd.ntmps85
        go_wp2_with (first | (go_at_call 91; refine cR.mono ?_; rintro _ v ⟨rfl, q⟩; obtain rfl := q.symm) | (go_at_call 95; refine (cT _).mono ?_; rintro _ v ⟨rfl, q⟩; obtain rfl := q.symm) | (go_at_call 96; refine (cW _).mono ?_; rintro _ v ⟨rfl, q⟩; obtain rfl := q.symm) | (go_at_call 97; refine (cP _).mono ?_; rintro _ v ⟨rfl, q⟩; obtain rfl := q.symm) | (go_at_call 98; refine (cG _).mono ?_; rintro _ v ⟨rfl, q⟩; obtain rfl := q.symm))
        exact bodyPost_ret (results_two (p := 4) (u := 5) (ty := 160) rfl _ _ (w.heap.size + 1) 160 (tkA ⟨3, y, ty, n, a⟩) (0, 0) _ rfl (HR.out.put ⟨3, y, ty, n, a⟩) Tryd.underlying160 rfl (by kernel_rfl)) rfl ⟨by rw [K.out.1, K.out.2]; rfl, below_put HB.out (by omega) _ _ _ _ _⟩
      · have K := pb_no HO.out
        clear HO
        go_enter Tryd.func85, Tryd.ntmps85
        go_wp2_with (first | (go_at_call 91; refine cR.mono ?_; rintro _ v ⟨rfl, q⟩; obtain rfl := q.symm) | (go_at_call 95; refine (cT _).mono ?_; rintro _ v ⟨rfl, q⟩; obtain rfl := q.symm) | (go_at_call 96; refine (cW _).mono ?_; rintro _ v ⟨rfl, q⟩; obtain rfl := q.symm) | (go_at_call 97; refine (cP _).mono ?_; rintro _ v ⟨rfl, q⟩; obtain rfl := q.symm) | (go_at_call 98; refine (cG _).mono ?_; rintro _ v ⟨rfl, q⟩; obtain rfl := q.symm))
        exact bodyPost_ret (results_two (p := 4) (u := 5) (ty := 160) rfl _ _ (w.heap.size + 1) 160 (tkA (tkP a)) (0, 0) _ rfl (HR.out.put (tkP a)) Tryd.underlying160 rfl (by kernel_rfl)) rfl ⟨by rw [K.out.1, K.out.2]; rfl, below_put HB.out (by omega) _ _ _ _ _⟩
    · have K := pb_no HO.out
      clear HO
      go_enter Tryd.func85, Tryd.ntmps85
      go_wp2_with (first | (go_at_call 91; refine cR.mono ?_; rintro _ v ⟨rfl, q⟩; obtain rfl := q.symm) | (go_at_call 95; refine (cT _).mono ?_; rintro _ v ⟨rfl, q⟩; obtain rfl := q.symm) | (go_at_call 96; refine (cW _).mono ?_; rintro _ v ⟨rfl, q⟩; obtain rfl := q.symm) | (go_at_call 97; refine (cP _).mono ?_; rintro _ v ⟨rfl, q⟩; obtain rfl := q.symm) | (go_at_call 98; refine (cG _).mono ?_; rintro _ v ⟨rfl, q⟩; obtain rfl := q.symm))
      exact bodyPost_ret (results_two (p := 4) (u := 5) (ty := 160) rfl _ _ (w.heap.size + 1) 160 (tkA (tkP a)) (0, 0) _ rfl (HR.out.put (tkP a)) Tryd.underlying160 rfl (by kernel_rfl)) rfl ⟨by rw [K.out.1, K.out.2]; rfl, below_put HB.out (by omega) _ _ _ _ _⟩
end Go.Proofs.YtighocmdlifheaaDoor
