import Derived.Test.YtkfabnchhjfjjabGreatDoorPa
/-
  The program's small functions for numbers: typed, worth, isPadded, isGlued; and what they come to together.
-/
namespace Go.Proofs.YtkfabnchhjfjjabGreatDoor
open Go.RowKit

/-- What digits come to, as long as it stays within 64 bits. -/
def wv : List UInt8 → Nat → Option Nat
  | [], n => some n
  | c :: l, n => if 10 * n + (c.toNat - 48) > 9223372036854775807 then none else wv l (10 * n + (c.toNat - 48))
theorem nmS_mono : ∀ (l : List UInt8) (n k n' k' : Nat), nmS l n k = some (n', k') → n ≤ n' ∧ k' = k + lead digB l
  | [], n, k, n', k', h => by
    simp only [nmS, Option.some.injEq, Prod.mk.injEq] at h
    obtain ⟨rfl, rfl⟩ := h
    exact ⟨Nat.le_refl _, rfl⟩
  | c :: l, n, k, n', k', h => by
    unfold nmS at h
    unfold lead
    by_cases hg : digB c = true
    · rw [if_pos hg] at h ⊢
      by_cases hn : n > 922337203685477580
      · rw [if_pos hn] at h; exact absurd h (by simp)
      · rw [if_neg hn] at h
        have := nmS_mono l _ _ _ _ h
        exact ⟨by omega, by omega⟩
    · rw [if_neg hg] at h ⊢
      simp only [Option.some.injEq, Prod.mk.injEq] at h
      obtain ⟨rfl, rfl⟩ := h
      exact ⟨Nat.le_refl _, rfl⟩
theorem wv_nmS : ∀ (l : List UInt8) (n k : Nat), n ≤ 9223372036854775807 →
    wv (l.take (lead digB l)) n = (match nmS l n k with | none => none | some (n', _) => if n' > 9223372036854775807 then none else some n')
  | [], n, k, h => by simp only [nmS, lead, List.take_zero, wv]; rw [if_neg (by omega)]
  | c :: l, n, k, h => by
    unfold lead nmS
    by_cases hg : digB c = true
    · rw [if_pos hg, if_pos hg, List.take_succ_cons]
      have hdc : 48 ≤ c.toNat ∧ c.toNat ≤ 57 := by unfold digB at hg; exact of_decide_eq_true hg
      unfold wv
      by_cases ho : 10 * n + (c.toNat - 48) > 9223372036854775807
      · rw [if_pos ho]
        by_cases hn : n > 922337203685477580
        · rw [if_pos hn]
        · rw [if_neg hn]
          cases hm : nmS l (10 * n + (c.toNat - 48)) (k + 1) with
          | none => rfl
          | some q =>
            obtain ⟨n', k'⟩ := q
            have := (nmS_mono _ _ _ _ _ hm).1
            simp only
            rw [if_pos (by omega)]
      · rw [if_neg ho, if_neg (by omega)]
        exact wv_nmS l _ _ (by omega)
    · rw [if_neg hg, if_neg hg]
      simp only [List.take_zero, wv]
      rw [if_neg (by omega)]
theorem lead_all {p : UInt8 → Bool} : ∀ (l : List UInt8) (c : UInt8), c ∈ l.take (lead p l) → p c = true
  | [], c, h => by simp at h
  | x :: l, c, h => by
    unfold lead at h
    by_cases hx : p x = true
    · rw [if_pos hx, List.take_succ_cons, List.mem_cons] at h
      rcases h with rfl | h
      · exact hx
      · exact lead_all l c h
    · rw [if_neg hx] at h; simp at h
/-- A number at a place, by the program's parts. -/
theorem nbO_parts (s : ByteArray) (a d e : Nat) (hd : d = a + lead digB (rest s a)) (he : e = if nbTy (rest s d) = 1 then d else d + 1) :
    nbO s a = (match wv ((rest s a).take (lead digB (rest s a))) 0 with | none => none | some n => if (d - a > 1 ∧ hd0 (rest s a) = true) then none else if badH (rest s e) = true then none else some (n, e, nbTy (rest s d))) := by
  rw [wv_nmS (rest s a) 0 0 (by omega)]
  cases hm : nmS (rest s a) 0 0 with
  | none => unfold nbO; rw [hm]
  | some q =>
    obtain ⟨n, k⟩ := q
    obtain ⟨_, hk⟩ := nmS_mono _ _ _ _ _ hm
    have hk2 : d - a = k := by omega
    rw [nbO_of (i := d) (by rw [hm, hk2]) (by omega), ← he]
    simp only
    by_cases hb : n > 9223372036854775807
    · simp [hb]
    · simp only [hb, false_or, if_false]

set_option maxHeartbeats 2000000 in
theorem typed_any (s : ByteArray) (a : Nat) (hs : s.size ≤ 140737488355328) (ha : a ≤ s.size) (w : World) :
    Calls Tryz.prog 103 #[.string s, .int .i64 a] w fun e w' => e = .returned (.tuple #[.int .u8 (nbTy (rest s a)), .int .i64 ((if nbTy (rest s a) = 1 then a else a + 1 : Nat) : Int)]) ∧ w' = w := by
  by_cases hlt : a < s.size
  · have hne : ((a : Int) == (s.size : Int)) = false := beq_false_of_ne (by omega)
    have hlt' : (a : Int) < (s.size : Int) := by omega
    have hr := rest_at s a hlt
    obtain ⟨c, hc⟩ : ∃ c, s[a] = c := ⟨_, rfl⟩
    rw [hc] at hr
    rw [hr]
    have K : nbTy (c :: rest s (a + 1)) = if c.toNat = 113 then 2 else if c.toNat = 112 then 3 else if c.toNat = 116 then 4 else 1 := rfl
    rw [K]
    clear K hr
    by_cases kt : c.toNat = 116
    · have xt : ((c.toNat : Int) == 116) = true := by rw [kt]; rfl
      rw [if_neg (by omega), if_neg (by omega), if_pos kt, if_neg (by decide)]
      go_enter Tryz.func103, Tryz.ntmps103
      go_wp2_with fail
      exact bodyPost_ret (by simp [results]) rfl ⟨rfl, rfl⟩
    · have xt : ((c.toNat : Int) == 116) = false := beq_false_of_ne (by omega)
      by_cases kp : c.toNat = 112
      · have xp : ((c.toNat : Int) == 112) = true := by rw [kp]; rfl
        rw [if_neg (by omega), if_pos kp, if_neg (by decide)]
        go_enter Tryz.func103, Tryz.ntmps103
        go_wp2_with fail
        exact bodyPost_ret (by simp [results]) rfl ⟨rfl, rfl⟩
      · have xp : ((c.toNat : Int) == 112) = false := beq_false_of_ne (by omega)
        by_cases kq : c.toNat = 113
        · have xq : ((c.toNat : Int) == 113) = true := by rw [kq]; rfl
          rw [if_pos kq, if_neg (by decide)]
          go_enter Tryz.func103, Tryz.ntmps103
          go_wp2_with fail
          exact bodyPost_ret (by simp [results]) rfl ⟨rfl, rfl⟩
        · have xq : ((c.toNat : Int) == 113) = false := beq_false_of_ne (by omega)
          rw [if_neg kq, if_neg kp, if_neg kt, if_pos rfl]
          go_enter Tryz.func103, Tryz.ntmps103
          go_wp2_with fail
          exact bodyPost_ret (by simp [results]) rfl ⟨rfl, rfl⟩
  · obtain rfl : a = s.size := by omega
    rw [rest_end s s.size (Nat.le_refl _)]
    show Calls Tryz.prog 103 #[.string s, .int .i64 s.size] w fun e w' => e = .returned (.tuple #[.int .u8 1, .int .i64 (s.size : Int)]) ∧ w' = w
    go_enter Tryz.func103, Tryz.ntmps103
    go_wp2_with fail
    exact bodyPost_ret (by simp [results]) rfl ⟨rfl, rfl⟩
end Go.Proofs.YtkfabnchhjfjjabGreatDoor

/-
  The walks of worth, isPadded, isGlued.
-/
namespace Go.Proofs.YtkfabnchhjfjjabGreatDoor
open Go.RowKit

theorem results_t2 {P : Program} {fn : Func} {p u : Tmp} (h : fn.results = #[.tmp p, .tmp u]) (tmps : Array Value) (w : World) : (results fn tmps).run P w = .ok (.tuple #[tmps.getD p undef, tmps.getD u undef]) w := by
  simp [results, h]
def wvN (o : Option Nat) : Int := match o with | none => 0 | some n => n
theorem isPadded_any (x : ByteArray) (hx : x.size ≤ 140737488355328) (w : World) : Calls Tryz.prog 105 #[.string x] w fun e w' => e = .returned (.bool (decide (x.size > 1) && hd0 (rest x 0))) ∧ w' = w := by
  by_cases h : x.size > 1
  · have h' : (1 : Int) < (x.size : Int) := by omega
    have h0 : 0 < x.size := by omega
    have h0' : (0 : Int) < (x.size : Int) := by omega
    have hr := rest_at x 0 h0
    obtain ⟨c, hc⟩ : ∃ c, x[0] = c := ⟨_, rfl⟩
    rw [hc] at hr
    have K : Hid ((decide (x.size > 1) && hd0 (rest x 0)) = ((c.toNat : Int) == 48)) := by
      show _ = _
      rw [decide_eq_true h, hr]
      show decide (c.toNat = 48) = _
      by_cases hk : c.toNat = 48
      · rw [hk]; rfl
      · rw [decide_eq_false hk, beq_false_of_ne (by omega)]
    clear hr
    go_enter Tryz.func105, Tryz.ntmps105
    go_wp2_with fail
    go_ret
    exact ⟨retB (by rw [K.out]), rfl⟩
  · have h' : ¬ (1 : Int) < (x.size : Int) := by omega
    rw [decide_eq_false h]
    go_enter Tryz.func105, Tryz.ntmps105
    go_wp2_with fail
    go_ret
    exact ⟨rfl, rfl⟩
set_option maxHeartbeats 2000000 in
theorem isGlued_any (s : ByteArray) (a : Nat) (ha : a ≤ s.size) (w : World) : Calls Tryz.prog 106 #[.string s, .int .i64 a] w fun e w' => e = .returned (.bool (badH (rest s a))) ∧ w' = w := by
  by_cases hlt : a < s.size
  · have hne : ((a : Int) == (s.size : Int)) = false := beq_false_of_ne (by omega)
    have hlt' : (a : Int) < (s.size : Int) := by omega
    have hr := rest_at s a hlt
    obtain ⟨c, hc⟩ : ∃ c, s[a] = c := ⟨_, rfl⟩
    rw [hc] at hr
    rw [hr]
    obtain ⟨R, eR⟩ : ∃ R, badH (c :: rest s (a + 1)) = R := ⟨_, rfl⟩
    have K : Hid (R = (goB c || upB c)) := eR.symm
    rw [eR]
    clear hr eR
    cases b1 : letB c
    · by_cases u1 : 65 ≤ c.toNat
      · by_cases u2 : c.toNat ≤ 90
        · have hu : upB c = true := by unfold upB; exact decide_eq_true ⟨u1, u2⟩
          have KR : Hid (R = true) := by show _ = _; rw [K.out, hu, Bool.or_true]
          have u1' : (65 : Int) ≤ (c.toNat : Int) := by omega
          have u2' : (c.toNat : Int) ≤ 90 := by omega
          clear K
          go_enter Tryz.func106, Tryz.ntmps106
          go_wp2_with (first | (go_at_call 87; refine (isLetter_b b1 _).mono ?_; rintro _ v ⟨rfl, e⟩; obtain rfl := e.symm) | (go_at_call 89; refine (isDigit_any _ _).mono ?_; rintro _ v ⟨rfl, e⟩; obtain rfl := e.symm))
          all_goals go_ret
          all_goals exact ⟨retB (by rw [KR.out]), rfl⟩
        · have hu : upB c = false := by unfold upB; exact decide_eq_false (by omega)
          have b2 : digB c = false := by unfold digB; exact decide_eq_false (by omega)
          have KR : Hid (R = ((c.toNat : Int) == 95)) := by
            show _ = _
            rw [K.out, hu]
            unfold goB
            rw [b1, b2]
            by_cases h : c.toNat = 95
            · rw [h]; rfl
            · rw [show ((c.toNat : Int) == 95) = false from beq_false_of_ne (by omega), decide_eq_false h]; rfl
          have u1' : (65 : Int) ≤ (c.toNat : Int) := by omega
          have u2' : ¬ (c.toNat : Int) ≤ 90 := by omega
          clear K
          go_enter Tryz.func106, Tryz.ntmps106
          go_wp2_with (first | (go_at_call 87; refine (isLetter_b b1 _).mono ?_; rintro _ v ⟨rfl, e⟩; obtain rfl := e.symm) | (go_at_call 89; refine (isDigit_b b2 _).mono ?_; rintro _ v ⟨rfl, e⟩; obtain rfl := e.symm))
          all_goals go_ret
          all_goals exact ⟨retB (by rw [KR.out, decide_eq_false (by omega)]; rfl), rfl⟩
      · have hu : upB c = false := by unfold upB; exact decide_eq_false (by omega)
        have u1' : ¬ (65 : Int) ≤ (c.toNat : Int) := by omega
        cases b2 : digB c
        · have KR : Hid (R = false) := by
            show _ = _
            rw [K.out, hu]
            unfold goB
            rw [b1, b2, decide_eq_false (by omega)]; rfl
          have x95 : ((c.toNat : Int) == 95) = false := beq_false_of_ne (by omega)
          clear K
          go_enter Tryz.func106, Tryz.ntmps106
          go_wp2_with (first | (go_at_call 87; refine (isLetter_b b1 _).mono ?_; rintro _ v ⟨rfl, e⟩; obtain rfl := e.symm) | (go_at_call 89; refine (isDigit_b b2 _).mono ?_; rintro _ v ⟨rfl, e⟩; obtain rfl := e.symm))
          all_goals go_ret
          all_goals exact ⟨retB (by rw [KR.out]), rfl⟩
        · have KR : Hid (R = true) := by
            show _ = _
            rw [K.out]
            unfold goB
            rw [b2]; simp
          clear K
          go_enter Tryz.func106, Tryz.ntmps106
          go_wp2_with (first | (go_at_call 87; refine (isLetter_b b1 _).mono ?_; rintro _ v ⟨rfl, e⟩; obtain rfl := e.symm) | (go_at_call 89; refine (isDigit_b b2 _).mono ?_; rintro _ v ⟨rfl, e⟩; obtain rfl := e.symm))
          all_goals go_ret
          all_goals exact ⟨retB (by rw [KR.out]), rfl⟩
    · have KR : Hid (R = true) := by
        show _ = _
        rw [K.out]
        unfold goB
        rw [b1]; simp
      clear K
      go_enter Tryz.func106, Tryz.ntmps106
      go_wp2_with (go_at_call 87; refine (isLetter_b b1 _).mono ?_; rintro _ v ⟨rfl, e⟩; obtain rfl := e.symm)
      all_goals go_ret
      all_goals exact ⟨retB (by rw [KR.out]), rfl⟩
  · obtain rfl : a = s.size := by omega
    rw [rest_end s s.size (Nat.le_refl _)]
    go_enter Tryz.func106, Tryz.ntmps106
    go_wp2_with fail
    go_ret
    exact ⟨rfl, rfl⟩
set_option maxHeartbeats 2000000 in
theorem worth_any (x : ByteArray) (hx : x.size ≤ 140737488355328) (hd : ∀ c ∈ rest x 0, digB c = true) (w : World) :
    Calls Tryz.prog 104 #[.string x] w fun e w' => e = .returned (.tuple #[.int .i64 (wvN (wv (rest x 0) 0)), .bool (wv (rest x 0) 0).isSome]) ∧ w' = w := by
  obtain ⟨o, ho⟩ : ∃ o, wv (rest x 0) 0 = o := ⟨_, rfl⟩
  have HO : Hid (wv (rest x 0) 0 = o) := ho
  have HD : Hid (∀ c ∈ rest x 0, digB c = true) := hd
  rw [ho]
  clear ho hd
  go_enter Tryz.func104, Tryz.ntmps104
  go_wp2_with fail
  go_loop [4, 9] (fun t u => ∃ i n : Nat, i ≤ x.size ∧ u = .int .i64 i ∧ t = .int .i64 n ∧ n ≤ 9223372036854775807 ∧ Hid (wv (rest x i) n = o)) (fun _ u => x.size - (intOf u).toNat)
  case atStart => exact ⟨0, 0, by omega, rfl, rfl, by omega, HO⟩
  case round =>
    obtain ⟨i, n, hi, rfl, rfl, hn, HR⟩ := hrel
    clear HO
    by_cases hlt : i < x.size
    · have hlt' : (i : Int) < (x.size : Int) := by omega
      have hr := rest_at x i hlt
      obtain ⟨c, hc⟩ : ∃ c, x[i] = c := ⟨_, rfl⟩
      rw [hc] at hr
      have hdc : digB c = true := by
        refine HD.out c ?_
        have : rest x i = (rest x 0).drop i := by unfold rest; simp
        exact List.mem_of_mem_drop (i := i) (by rw [← this, hr]; simp)
      obtain ⟨k1, k2⟩ : 48 ≤ c.toNat ∧ c.toNat ≤ 57 := by unfold digB at hdc; exact of_decide_eq_true hdc
      obtain ⟨g, hg⟩ : ∃ g : Nat, c.toNat = g + 48 := ⟨c.toNat - 48, by omega⟩
      have hgI : (c.toNat : Int) - 48 = (g : Int) := by omega
      have K : Hid (wv (rest x i) n = if 10 * n + g > 9223372036854775807 then none else wv (rest x (i + 1)) (10 * n + g)) := by
        show _ = _
        rw [hr, wv, show c.toNat - 48 = g by omega]
      have k1' : (48 : Int) ≤ (c.toNat : Int) := by omega
      have hg9 : g ≤ 9 := by omega
      clear hr hdc
      by_cases hb : 10 * n + g > 9223372036854775807
      · have hb' : (9223372036854775807 - (g : Int)) / 10 < (n : Int) := by omega
        have KO : Hid (o = none) := by show _ = _; rw [← HR.out, K.out, if_pos hb]
        clear K HR
        go_wp2_with fail
        exact bodyPost_ret (results_t2 (p := 2) (u := 3) rfl _ _) rfl ⟨by rw [KO.out]; rfl, rfl⟩
      · have hb' : ¬ (9223372036854775807 - (g : Int)) / 10 < (n : Int) := by omega
        have KO : Hid (wv (rest x (i + 1)) (10 * n + g) = o) := by show _ = _; rw [← HR.out, K.out, if_neg hb]
        clear K HR
        go_wp2_with fail
        exact ⟨⟨i + 1, 10 * n + g, by omega, by go_num, by rw [show (n : Int) * 10 + (g : Int) = ((10 * n + g : Nat) : Int) by omega], by omega, KO⟩, by simp only [intOf]; omega⟩
    · obtain rfl : i = x.size := by omega
      have hn' : ¬ (x.size : Int) < (x.size : Int) := by omega
      have KO : Hid (o = some n) := by show _ = _; rw [← HR.out, rest_end x x.size (Nat.le_refl _)]; rfl
      clear HR
      go_wp2_with fail
      exact bodyPost_ret (results_t2 (p := 2) (u := 3) rfl _ _) rfl ⟨by rw [KO.out]; rfl, rfl⟩
end Go.Proofs.YtkfabnchhjfjjabGreatDoor

/-
  The walk of lex.word.
-/
namespace Go.Proofs.YtkfabnchhjfjjabGreatDoor
open Go.RowKit

/-- What is told of what is no token: its place alone. -/
def tkP (a : Nat) : Tk := ⟨0, ⟨#[]⟩, 0, 0, a⟩
/-- The program's word or name at a place. -/
def pnT (s : ByteArray) (a : Nat) : Tk := if nmE s a = 0 then nmT s a else tkP a
set_option maxRecDepth 100000 in
set_option maxHeartbeats 2000000 in
theorem wordp_any (s : ByteArray) (a : Nat) (hs : s.size ≤ 140737488355328) (ha : a ≤ s.size) (w : World) (ht : Tab w) :
    Calls Tryz.prog 88 #[.string s, .int .i64 a] w fun e w' => e = .returned (.tuple #[.agg (tkA (pnT s a)), .int .i64 (nmE s a)]) ∧ Below w.heap.size w w' := by
  obtain ⟨d, hd⟩ : ∃ d, a + lead goB (rest s a) = d := ⟨_, rfl⟩
  have hd1 : a ≤ d := by omega
  have hd2 : d ≤ s.size := by have := lead_le goB (rest s a); rw [rest_len] at this; omega
  have HT : Hid (nmT s a = if d - a > 16 then tk0 else ⟨if isW (s.extract a d) = true then 1 else 2, s.extract a d, 0, 0, a⟩) := by show _ = _; unfold nmT; rw [hd, show lead goB (rest s a) = d - a by omega]
  have HE : Hid (nmE s a = if d - a > 16 then 112 else 0) := by show _ = _; unfold nmE; rw [show lead goB (rest s a) = d - a by omega]
  have HD : Hid (d = a + lead goB (rest s a)) := hd.symm
  have hS0 : (w.alloc (.cells #[.string s] 9)).heap[w.heap.size]? = some (.cells #[.string s] 9 (0, 0)) := heap_new w _
  have hB0 := below_two w (.cells #[.string s] 9) (.cells (tkA tk0) 33)
  have hR0 : TkH ((w.alloc (.cells #[.string s] 9)).alloc (.cells (tkA tk0) 33)) (w.heap.size + 1) tk0 := by rw [← size_alloc w (.cells #[.string s] 9)]; exact heap_new _ _
  have hS1 : ((w.alloc (.cells #[.string s] 9)).alloc (.cells (tkA tk0) 33)).heap[w.heap.size]? = some (.cells #[.string s] 9 (0, 0)) := heap_old hS0 (by rw [size_alloc]; omega)
  have hz0 : ((w.alloc (.cells #[.string s] 9)).alloc (.cells (tkA tk0) 33)).heap.size = w.heap.size + 2 := by rw [size_alloc, size_alloc]
  have hT0 := ht.on hB0
  obtain ⟨W, eW⟩ : ∃ W, (w.alloc (.cells #[.string s] 9)).alloc (.cells (tkA tk0) 33) = W := ⟨_, rfl⟩
  rw [eW] at hB0 hR0 hS1 hz0 hT0
  have hc := cell_of hS1 0
  have HRR := hR0.hid
  have HTab := hT0.hid
  have HB : Hid (Below w.heap.size w W) := hB0
  have cR := reachW_any s a w.heap.size hs ha W hc d HD
  unfold tkA tk0 at eW
  dsimp only at eW
  clear hd ht hS0 hS1 hT0 hR0 hB0 HD
  go_enter Tryz.func88, Tryz.ntmps88
  go_wp2_with fail
  clear eW
  refine cR.mono ?_
  rintro _ v ⟨rfl, e⟩
  obtain rfl := e.symm
  clear cR
  by_cases h16 : d - a > 16
  · have h16' : (16 : Int) < (d : Int) - (a : Int) := by omega
    have KE : Hid (nmE s a = 112) := by show _ = _; rw [HE.out, if_pos h16]
    have KT : Hid (pnT s a = tkP a) := by show _ = _; unfold pnT; rw [KE.out, if_neg (by decide)]
    obtain ⟨r0, r1, r2, r3, r4⟩ := HRR.out.cells
    obtain ⟨f0, f1, f2, f3, f4⟩ := HRR.out.froz
    clear HT HE
    go_wp2_with fail
    exact bodyPost_ret (results_two (p := 4) (u := 5) (ty := 33) rfl _ _ (w.heap.size + 1) 33 (tkA (tkP a)) (0, 0) _ rfl (HRR.out.put (tkP a)) Tryz.underlying33 rfl (by kernel_rfl)) rfl ⟨by rw [KT.out, KE.out]; rfl, below_put HB.out (by omega) _ _ _ _ _⟩
  · have h16' : ¬ (16 : Int) < (d : Int) - (a : Int) := by omega
    have KE : Hid (nmE s a = 0) := by show _ = _; rw [HE.out, if_neg h16]
    obtain ⟨x, ex⟩ : ∃ x, s.extract a d = x := ⟨_, rfl⟩
    have KT : Hid (pnT s a = ⟨if isW x = true then 1 else 2, x, 0, 0, a⟩) := by show _ = _; unfold pnT; rw [KE.out, if_pos rfl, HT.out, if_neg h16, ex]
    have hY : TkH (W.alloc (.cells (tkA ⟨2, x, 0, 0, a⟩) 33)) W.heap.size ⟨2, x, 0, 0, a⟩ := heap_new W _
    rw [hz0] at hY
    have hR : TkH (W.alloc (.cells (tkA ⟨2, x, 0, 0, a⟩) 33)) (w.heap.size + 1) tk0 := heap_old HRR.out HRR.out.lt
    have hB2 := HB.out.alloc HB.out.size (.cells (tkA ⟨2, x, 0, 0, a⟩) 33)
    have hT2 := HTab.out.on (below_new W (.cells (tkA ⟨2, x, 0, 0, a⟩) 33))
    obtain ⟨V, eV⟩ : ∃ V, W.alloc (.cells (tkA ⟨2, x, 0, 0, a⟩) 33) = V := ⟨_, rfl⟩
    rw [eV] at hY hR hB2 hT2
    have HY := hY.hid
    have HR2 := hR.hid
    have HB2 : Hid (Below w.heap.size w V) := hB2
    have cW := wordP_any x V hT2
    unfold tkA at eV
    dsimp only at eV
    clear HT HE hY hR hB2 hT2
    obtain ⟨z0, z1, z2, z3, z4⟩ := HY.out.cells
    go_wp2_with fail
    clear eV
    refine cW.mono ?_
    rintro _ v ⟨rfl, e⟩
    obtain rfl := e.symm
    clear cW
    cases hw : isW x
    · have KT2 : Hid (pnT s a = ⟨2, x, 0, 0, a⟩) := by show _ = _; rw [KT.out, hw]; rfl
      obtain ⟨r0, r1, r2, r3, r4⟩ := HR2.out.cells
      obtain ⟨f0, f1, f2, f3, f4⟩ := HR2.out.froz
      clear KT
      go_wp2_with fail
      exact bodyPost_ret (results_two (p := 4) (u := 5) (ty := 33) rfl _ _ (w.heap.size + 1) 33 (tkA ⟨2, x, 0, 0, a⟩) (0, 0) _ rfl (HR2.out.put ⟨2, x, 0, 0, a⟩) Tryz.underlying33 rfl (by kernel_rfl)) rfl ⟨by rw [KT2.out, KE.out]; rfl, below_put HB2.out (by omega) _ _ _ _ _⟩
    · have KT2 : Hid (pnT s a = ⟨1, x, 0, 0, a⟩) := by show _ = _; rw [KT.out, hw]; rfl
      obtain ⟨U, eU⟩ : ∃ U, V.setCell ⟨w.heap.size + 2, 0, none⟩ (.int .u8 1) = U := ⟨_, rfl⟩
      have HY3 : Hid (TkH U (w.heap.size + 2) ⟨1, x, 0, 0, a⟩) := by show TkH U _ _; rw [← eU]; exact heap_set _ HY.out
      have HR3 : Hid (TkH U (w.heap.size + 1) tk0) := by show TkH U _ _; rw [← eU]; exact (Below.heap_setCell _ _ _ _ (by simp)).trans HR2.out
      have hB4 : Below w.heap.size w U := by rw [← eU]; exact HB2.out.setCell (p := ⟨w.heap.size + 2, 0, none⟩) (by simp) _
      obtain ⟨g0, g1, g2, g3, g4⟩ := HY.out.froz
      obtain ⟨y0, y1, y2, y3, y4⟩ := HY3.out.cells
      obtain ⟨r0, r1, r2, r3, r4⟩ := HR3.out.cells
      obtain ⟨f0, f1, f2, f3, f4⟩ := HR3.out.froz
      clear KT
      go_wp2_with fail
      exact bodyPost_ret (results_two (p := 4) (u := 5) (ty := 33) rfl _ _ (w.heap.size + 1) 33 (tkA ⟨1, x, 0, 0, a⟩) (0, 0) _ rfl (HR3.out.put ⟨1, x, 0, 0, a⟩) Tryz.underlying33 rfl (by kernel_rfl)) rfl ⟨by rw [KT2.out, KE.out]; rfl, below_put hB4 (by omega) _ _ _ _ _⟩
end Go.Proofs.YtkfabnchhjfjjabGreatDoor
