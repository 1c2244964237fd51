import Derived.Test.YtighocmdlifheaaGreatDoorM0
/-
  The program's small functions for numbers: typed, worth, isPadded, isGlued; and what they come to together.
-/
namespace Go.Proofs.YtighocmdlifheaaGreatDoor
open Go.RowKit

/-- What digits come to, as long as it stays within 64 bits. -/
def wv : List UInt8 → Nat → Option Nat
  | [], n => some n
  | c :: l, n => if 10 * n + (c.toNat - 48) > 9223372036854775807 then none else wv l (10 * n + (c.toNat - 48))
theorem nmS_mono : ∀ (l : List UInt8) (n k n' k' : Nat), nmS l n k = some (n', k') → n ≤ n' ∧ k' = k + lead digB l
  | [], n, k, n', k', h => by
    simp only [nmS, Option.some.injEq, Prod.mk.injEq] at h
    obtain ⟨rfl, rfl⟩ := h
    exact ⟨Nat.le_refl _, rfl⟩
  | c :: l, n, k, n', k', h => by
    unfold nmS at h
    unfold lead
    by_cases hg : digB c = true
    · rw [if_pos hg] at h ⊢
      by_cases hn : n > 922337203685477580
      · rw [if_pos hn] at h; exact absurd h (by simp)
      · rw [if_neg hn] at h
        have := nmS_mono l _ _ _ _ h
        exact ⟨by omega, by omega⟩
    · rw [if_neg hg] at h ⊢
      simp only [Option.some.injEq, Prod.mk.injEq] at h
      obtain ⟨rfl, rfl⟩ := h
      exact ⟨Nat.le_refl _, rfl⟩
theorem wv_nmS : ∀ (l : List UInt8) (n k : Nat), n ≤ 9223372036854775807 →
    wv (l.take (lead digB l)) n = (match nmS l n k with | none => none | some (n', _) => if n' > 9223372036854775807 then none else some n')
  | [], n, k, h => by simp only [nmS, lead, List.take_zero, wv]; rw [if_neg (by omega)]
  | c :: l, n, k, h => by
    unfold lead nmS
    by_cases hg : digB c = true
    · rw [if_pos hg, if_pos hg, List.take_succ_cons]
      have hdc : 48 ≤ c.toNat ∧ c.toNat ≤ 57 := by unfold digB at hg; exact of_decide_eq_true hg
      unfold wv
      by_cases ho : 10 * n + (c.toNat - 48) > 9223372036854775807
      · rw [if_pos ho]
        by_cases hn : n > 922337203685477580
        · rw [if_pos hn]
        · rw [if_neg hn]
          cases hm : nmS l (10 * n + (c.toNat - 48)) (k + 1) with
          | none => rfl
          | some q =>
            obtain ⟨n', k'⟩ := q
            have := (nmS_mono _ _ _ _ _ hm).1
            simp only
            rw [if_pos (by omega)]
      · rw [if_neg ho, if_neg (by omega)]
        exact wv_nmS l _ _ (by omega)
    · rw [if_neg hg, if_neg hg]
      simp only [List.take_zero, wv]
      rw [if_neg (by omega)]
theorem lead_all {p : UInt8 → Bool} : ∀ (l : List UInt8) (c : UInt8), c ∈ l.take (lead p l) → p c = true
  | [], c, h => by simp at h
  | x :: l, c, h => by
    unfold lead at h
    by_cases hx : p x = true
    · rw [if_pos hx, List.take_succ_cons, List.mem_cons] at h
      rcases h with rfl | h
      · exact hx
      · exact lead_all l c h
    · rw [if_neg hx] at h; simp at h
/-- A number at a place, by the program's parts. -/
theorem nbO_parts (s : ByteArray) (a d e : Nat) (hd : d = a + lead digB (rest s a)) (he : e = if nbTy (rest s d) = 1 then d else d + 1) :
    nbO s a = (match wv ((rest s a).take (lead digB (rest s a))) 0 with | none => none | some n => if (d - a > 1 ∧ hd0 (rest s a) = true) then none else if badH (rest s e) = true then none else some (n, e, nbTy (rest s d))) := by
  rw [wv_nmS (rest s a) 0 0 (by omega)]
  cases hm : nmS (rest s a) 0 0 with
  | none => unfold nbO; rw [hm]
  | some q =>
    obtain ⟨n, k⟩ := q
    obtain ⟨_, hk⟩ := nmS_mono _ _ _ _ _ hm
    have hk2 : d - a = k := by omega
    rw [nbO_of (i := d) (by rw [hm, hk2]) (by omega), ← he]
    simp only
    by_cases hb : n > 9223372036854775807
    · simp [hb]
    · simp only [hb, false_or, if_false]

set_option maxHeartbeats 2000000 in
theorem typed_any (s : ByteArray) (a : Nat) (hs : s.size ≤ 140737488355328) (ha : a ≤ s.size) (w : World) :
    Calls Tryz.prog 155 #[.string s, .int .i64 a] w fun e w' => e = .returned (.tuple #[.int .u8 (nbTy (rest s a)), .int .i64 ((if nbTy (rest s a) = 1 then a else a + 1 : Nat) : Int)]) ∧ w' = w := by
  by_cases hlt : a < s.size
  · have hne : ((a : Int) == (s.size : Int)) = false := beq_false_of_ne (by omega)
    have hlt' : (a : Int) < (s.size : Int) := by omega
    have hr := rest_at s a hlt
    obtain ⟨c, hc⟩ : ∃ c, s[a] = c := ⟨_, rfl⟩
    rw [hc] at hr
    rw [hr]
    have K : nbTy (c :: rest s (a + 1)) = if c.toNat = 113 then 2 else if c.toNat = 112 then 3 else if c.toNat = 116 then 4 else 1 := rfl
    rw [K]
    clear K hr
    by_cases kt : c.toNat = 116
    · have xt : ((c.toNat : Int) == 116) = true := by rw [kt]; rfl
      rw [if_neg (by omega), if_neg (by omega), if_pos kt, if_neg (by decide)]
      go_enter Tryz.func155, Tryz.ntmps155
      go_wp2_with fail
      exact bodyPost_ret (by simp [results]) rfl ⟨rfl, rfl⟩
    · have xt : ((c.toNat : Int) == 116) = false := beq_false_of_ne (by omega)
      by_cases kp : c.toNat = 112
      · have xp : ((c.toNat : Int) == 112) = true := by rw [kp]; rfl
        rw [if_neg (by omega), if_pos kp, if_neg (by decide)]
        go_enter Tryz.func155, Tryz.ntmps155
        go_wp2_with fail
        exact bodyPost_ret (by simp [results]) rfl ⟨rfl, rfl⟩
      · have xp : ((c.toNat : Int) == 112) = false := beq_false_of_ne (by omega)
        by_cases kq : c.toNat = 113
        · have xq : ((c.toNat : Int) == 113) = true := by rw [kq]; rfl
          rw [if_pos kq, if_neg (by decide)]
          go_enter Tryz.func155, Tryz.ntmps155
          go_wp2_with fail
          exact bodyPost_ret (by simp [results]) rfl ⟨rfl, rfl⟩
        · have xq : ((c.toNat : Int) == 113) = false := beq_false_of_ne (by omega)
          rw [if_neg kq, if_neg kp, if_neg kt, if_pos rfl]
          go_enter Tryz.func155, Tryz.ntmps155
          go_wp2_with fail
          exact bodyPost_ret (by simp [results]) rfl ⟨rfl, rfl⟩
  · obtain rfl : a = s.size := by omega
    rw [rest_end s s.size (Nat.le_refl _)]
    show Calls Tryz.prog 155 #[.string s, .int .i64 s.size] w fun e w' => e = .returned (.tuple #[.int .u8 1, .int .i64 (s.size : Int)]) ∧ w' = w
    go_enter Tryz.func155, Tryz.ntmps155
    go_wp2_with fail
    exact bodyPost_ret (by simp [results]) rfl ⟨rfl, rfl⟩
end Go.Proofs.YtighocmdlifheaaGreatDoor

/-
  The walks of worth, isPadded, isGlued.
-/
namespace Go.Proofs.YtighocmdlifheaaGreatDoor
open Go.RowKit

theorem results_t2 {P : Program} {fn : Func} {p u : Tmp} (h : fn.results = #[.tmp p, .tmp u]) (tmps : Array Value) (w : World) : (results fn tmps).run P w = .ok (.tuple #[tmps.getD p undef, tmps.getD u undef]) w := by
  simp [results, h]
def wvN (o : Option Nat) : Int := match o with | none => 0 | some n => n
theorem isPadded_any (x : ByteArray) (hx : x.size ≤ 140737488355328) (w : World) : Calls Tryz.prog 157 #[.string x] w fun e w' => e = .returned (.bool (decide (x.size > 1) && hd0 (rest x 0))) ∧ w' = w := by
  by_cases h : x.size > 1
  · have h' : (1 : Int) < (x.size : Int) := by omega
    have h0 : 0 < x.size := by omega
    have h0' : (0 : Int) < (x.size : Int) := by omega
    have hr := rest_at x 0 h0
    obtain ⟨c, hc⟩ : ∃ c, x[0] = c := ⟨_, rfl⟩
    rw [hc] at hr
    have K : Hid ((decide (x.size > 1) && hd0 (rest x 0)) = ((c.toNat : Int) == 48)) := by
      show _ = _
      rw [decide_eq_true h, hr]
      show decide (c.toNat = 48) = _
      by_cases hk : c.toNat = 48
      · rw [hk]; rfl
      · rw [decide_eq_false hk, beq_false_of_ne (by omega)]
    clear hr
    go_enter Tryz.func157, Tryz.ntmps157
    go_wp2_with fail
    go_ret
    exact ⟨retB (by rw [K.out]), rfl⟩
  · have h' : ¬ (1 : Int) < (x.size : Int) := by omega
    rw [decide_eq_false h]
    go_enter Tryz.func157, Tryz.ntmps157
    go_wp2_with fail
    go_ret
    exact ⟨rfl, rfl⟩
set_option maxHeartbeats 2000000 in
theorem isGlued_any (s : ByteArray) (a : Nat) (ha : a ≤ s.size) (w : World) : Calls Tryz.prog 158 #[.string s, .int .i64 a] w fun e w' => e = .returned (.bool (badH (rest s a))) ∧ w' = w := by
  by_cases hlt : a < s.size
  · have hne : ((a : Int) == (s.size : Int)) = false := beq_false_of_ne (by omega)
    have hlt' : (a : Int) < (s.size : Int) := by omega
    have hr := rest_at s a hlt
    obtain ⟨c, hc⟩ : ∃ c, s[a] = c := ⟨_, rfl⟩
    rw [hc] at hr
    rw [hr]
    obtain ⟨R, eR⟩ : ∃ R, badH (c :: rest s (a + 1)) = R := ⟨_, rfl⟩
    have K : Hid (R = (goB c || upB c)) := eR.symm
    rw [eR]
    clear hr eR
    cases b1 : letB c
    · by_cases u1 : 65 ≤ c.toNat
      · by_cases u2 : c.toNat ≤ 90
        · have hu : upB c = true := by unfold upB; exact decide_eq_true ⟨u1, u2⟩
          have KR : Hid (R = true) := by show _ = _; rw [K.out, hu, Bool.or_true]
          have u1' : (65 : Int) ≤ (c.toNat : Int) := by omega
          have u2' : (c.toNat : Int) ≤ 90 := by omega
          clear K
          go_enter Tryz.func158, Tryz.ntmps158
          go_wp2_with (first | (go_at_call 140; refine (isLetter_b b1 _).mono ?_; rintro _ v ⟨rfl, e⟩; obtain rfl := e.symm) | (go_at_call 142; refine (isDigit_any _ _).mono ?_; rintro _ v ⟨rfl, e⟩; obtain rfl := e.symm))
          all_goals go_ret
          all_goals exact ⟨retB (by rw [KR.out]), rfl⟩
        · have hu : upB c = false := by unfold upB; exact decide_eq_false (by omega)
          have b2 : digB c = false := by unfold digB; exact decide_eq_false (by omega)
          have KR : Hid (R = ((c.toNat : Int) == 95)) := by
            show _ = _
            rw [K.out, hu]
            unfold goB
            rw [b1, b2]
            by_cases h : c.toNat = 95
            · rw [h]; rfl
            · rw [show ((c.toNat : Int) == 95) = false from beq_false_of_ne (by omega), decide_eq_false h]; rfl
          have u1' : (65 : Int) ≤ (c.toNat : Int) := by omega
          have u2' : ¬ (c.toNat : Int) ≤ 90 := by omega
          clear K
          go_enter Tryz.func158, Tryz.ntmps158
          go_wp2_with (first | (go_at_call 140; refine (isLetter_b b1 _).mono ?_; rintro _ v ⟨rfl, e⟩; obtain rfl := e.symm) | (go_at_call 142; refine (isDigit_b b2 _).mono ?_; rintro _ v ⟨rfl, e⟩; obtain rfl := e.symm))
          all_goals go_ret
          all_goals exact ⟨retB (by rw [KR.out, decide_eq_false (by omega)]; rfl), rfl⟩
      · have hu : upB c = false := by unfold upB; exact decide_eq_false (by omega)
        have u1' : ¬ (65 : Int) ≤ (c.toNat : Int) := by omega
        cases b2 : digB c
        · have KR : Hid (R = false) := by
            show _ = _
            rw [K.out, hu]
            unfold goB
            rw [b1, b2, decide_eq_false (by omega)]; rfl
          have x95 : ((c.toNat : Int) == 95) = false := beq_false_of_ne (by omega)
          clear K
          go_enter Tryz.func158, Tryz.ntmps158
          go_wp2_with (first | (go_at_call 140; refine (isLetter_b b1 _).mono ?_; rintro _ v ⟨rfl, e⟩; obtain rfl := e.symm) | (go_at_call 142; refine (isDigit_b b2 _).mono ?_; rintro _ v ⟨rfl, e⟩; obtain rfl := e.symm))
          all_goals go_ret
          all_goals exact ⟨retB (by rw [KR.out]), rfl⟩
        · have KR : Hid (R = true) := by
            show _ = _
            rw [K.out]
            unfold goB
            rw [b2]; simp
          clear K
          go_enter Tryz.func158, Tryz.ntmps158
          go_wp2_with (first | (go_at_call 140; refine (isLetter_b b1 _).mono ?_; rintro _ v ⟨rfl, e⟩; obtain rfl := e.symm) | (go_at_call 142; refine (isDigit_b b2 _).mono ?_; rintro _ v ⟨rfl, e⟩; obtain rfl := e.symm))
          all_goals go_ret
          all_goals exact ⟨retB (by rw [KR.out]), rfl⟩
    · have KR : Hid (R = true) := by
        show _ = _
        rw [K.out]
        unfold goB
        rw [b1]; simp
      clear K
      go_enter Tryz.func158, Tryz.ntmps158
      go_wp2_with (go_at_call 140; refine (isLetter_b b1 _).mono ?_; rintro _ v ⟨rfl, e⟩; obtain rfl := e.symm)
      all_goals go_ret
      all_goals exact ⟨retB (by rw [KR.out]), rfl⟩
  · obtain rfl : a = s.size := by omega
    rw [rest_end s s.size (Nat.le_refl _)]
    go_enter Tryz.func158, Tryz.ntmps158
    go_wp2_with fail
    go_ret
    exact ⟨rfl, rfl⟩
set_option maxHeartbeats 2000000 in
theorem worth_any (x : ByteArray) (hx : x.size ≤ 140737488355328) (hd : ∀ c ∈ rest x 0, digB c = true) (w : World) :
    Calls Tryz.prog 156 #[.string x] w fun e w' => e = .returned (.tuple #[.int .i64 (wvN (wv (rest x 0) 0)), .bool (wv (rest x 0) 0).isSome]) ∧ w' = w := by
  obtain ⟨o, ho⟩ : ∃ o, wv (rest x 0) 0 = o := ⟨_, rfl⟩
  have HO : Hid (wv (rest x 0) 0 = o) := ho
  have HD : Hid (∀ c ∈ rest x 0, digB c = true) := hd
  rw [ho]
  clear ho hd
  go_enter Tryz.func156, Tryz.ntmps156
  go_wp2_with fail
  go_loop [4, 9] (fun t u => ∃ i n : Nat, i ≤ x.size ∧ u = .int .i64 i ∧ t = .int .i64 n ∧ n ≤ 9223372036854775807 ∧ Hid (wv (rest x i) n = o)) (fun _ u => x.size - (intOf u).toNat)
  case atStart => exact ⟨0, 0, by omega, rfl, rfl, by omega, HO⟩
  case round =>
    obtain ⟨i, n, hi, rfl, rfl, hn, HR⟩ := hrel
    clear HO
    by_cases hlt : i < x.size
    · have hlt' : (i : Int) < (x.size : Int) := by omega
      have hr := rest_at x i hlt
      obtain ⟨c, hc⟩ : ∃ c, x[i] = c := ⟨_, rfl⟩
      rw [hc] at hr
      have hdc : digB c = true := by
        refine HD.out c ?_
        have : rest x i = (rest x 0).drop i := by unfold rest; simp
        exact List.mem_of_mem_drop (i := i) (by rw [← this, hr]; simp)
      obtain ⟨k1, k2⟩ : 48 ≤ c.toNat ∧ c.toNat ≤ 57 := by unfold digB at hdc; exact of_decide_eq_true hdc
      obtain ⟨g, hg⟩ : ∃ g : Nat, c.toNat = g + 48 := ⟨c.toNat - 48, by omega⟩
      have hgI : (c.toNat : Int) - 48 = (g : Int) := by omega
      have K : Hid (wv (rest x i) n = if 10 * n + g > 9223372036854775807 then none else wv (rest x (i + 1)) (10 * n + g)) := by
        show _ = _
        rw [hr, wv, show c.toNat - 48 = g by omega]
      have k1' : (48 : Int) ≤ (c.toNat : Int) := by omega
      have hg9 : g ≤ 9 := by omega
      clear hr hdc
      by_cases hb : 10 * n + g > 9223372036854775807
      · have hb' : (9223372036854775807 - (g : Int)) / 10 < (n : Int) := by omega
        have KO : Hid (o = none) := by show _ = _; rw [← HR.out, K.out, if_pos hb]
        clear K HR
        go_wp2_with fail
        exact bodyPost_ret (results_t2 (p := 2) (u := 3) rfl _ _) rfl ⟨by rw [KO.out]; rfl, rfl⟩
      · have hb' : ¬ (9223372036854775807 - (g : Int)) / 10 < (n : Int) := by omega
        have KO : Hid (wv (rest x (i + 1)) (10 * n + g) = o) := by show _ = _; rw [← HR.out, K.out, if_neg hb]
        clear K HR
        go_wp2_with fail
        exact ⟨⟨i + 1, 10 * n + g, by omega, by go_num, by rw [show (n : Int) * 10 + (g : Int) = ((10 * n + g : Nat) : Int) by omega], by omega, KO⟩, by simp only [intOf]; omega⟩
    · obtain rfl : i = x.size := by omega
      have hn' : ¬ (x.size : Int) < (x.size : Int) := by omega
      have KO : Hid (o = some n) := by show _ = _; rw [← HR.out, rest_end x x.size (Nat.le_refl _)]; rfl
      clear HR
      go_wp2_with fail
      exact bodyPost_ret (results_t2 (p := 2) (u := 3) rfl _ _) rfl ⟨by rw [KO.out]; rfl, rfl⟩
end Go.Proofs.YtighocmdlifheaaGreatDoor

/-
  The walk of lex.word.
-/
namespace Go.Proofs.YtighocmdlifheaaGreatDoor
open Go.RowKit

/-- What is told of what is no token: its place alone. -/
def tkP (a : Nat) : Tk := ⟨0, ⟨#[]⟩, 0, 0, a⟩
/-- The program's word or name at a place. -/
def pnT (s : ByteArray) (a : Nat) : Tk := if nmE s a = 0 then nmT s a else tkP a
set_option maxRecDepth 100000 in
set_option maxHeartbeats 2000000 in
theorem wordp_any (s : ByteArray) (a : Nat) (hs : s.size ≤ 140737488355328) (ha : a ≤ s.size) (w : World) (ht : Tab w) :
    Calls Tryz.prog 141 #[.string s, .int .i64 a] w fun e w' => e = .returned (.tuple #[.agg (tkA (pnT s a)), .int .i64 (nmE s a)]) ∧ Below w.heap.size w w' := by
  obtain ⟨d, hd⟩ : ∃ d, a + lead goB (rest s a) = d := ⟨_, rfl⟩
  have hd1 : a ≤ d := by omega
  have hd2 : d ≤ s.size := by have := lead_le goB (rest s a); rw [rest_len] at this; omega
  have HT : Hid (nmT s a = if d - a > 16 then tk0 else ⟨if isW (s.extract a d) = true then 1 else 2, s.extract a d, 0, 0, a⟩) := by show _ = _; unfold nmT; rw [hd, show lead goB (rest s a) = d - a by omega]
  have HE : Hid (nmE s a = if d - a > 16 then 112 else 0) := by show _ = _; unfold nmE; rw [show lead goB (rest s a) = d - a by omega]
  have HD : Hid (d = a + lead goB (rest s a)) := hd.symm
  have hS0 : (w.alloc (.cells #[.string s] 9)).heap[w.heap.size]? = some (.cells #[.string s] 9 (0, 0)) := heap_new w _
  have hB0 := below_two w (.cells #[.string s] 9) (.cells (tkA tk0) 138)
  have hR0 : TkH ((w.alloc (.cells #[.string s] 9)).alloc (.cells (tkA tk0) 138)) (w.heap.size + 1) tk0 := by rw [← size_alloc w (.cells #[.string s] 9)]; exact heap_new _ _
  have hS1 : ((w.alloc (.cells #[.string s] 9)).alloc (.cells (tkA tk0) 138)).heap[w.heap.size]? = some (.cells #[.string s] 9 (0, 0)) := heap_old hS0 (by rw [size_alloc]; omega)
  have hz0 : ((w.alloc (.cells #[.string s] 9)).alloc (.cells (tkA tk0) 138)).heap.size = w.heap.size + 2 := by rw [size_alloc, size_alloc]
  have hT0 := ht.on hB0
  obtain ⟨W, eW⟩ : ∃ W, (w.alloc (.cells #[.string s] 9)).alloc (.cells (tkA tk0) 138) = W := ⟨_, rfl⟩
  rw [eW] at hB0 hR0 hS1 hz0 hT0
  have hc := cell_of hS1 0
  have HRR := hR0.hid
  have HTab := hT0.hid
  have HB : Hid (Below w.heap.size w W) := hB0
  have cR := reachW_any s a w.heap.size hs ha W hc d HD
  unfold tkA tk0 at eW
  dsimp only at eW
  clear hd ht hS0 hS1 hT0 hR0 hB0 HD
  go_enter Tryz.func141, Tryz.ntmps141
  go_wp2_with fail
  clear eW
  refine cR.mono ?_
  rintro _ v ⟨rfl, e⟩
  obtain rfl := e.symm
  clear cR
  by_cases h16 : d - a > 16
  · have h16' : (16 : Int) < (d : Int) - (a : Int) := by omega
    have KE : Hid (nmE s a = 112) := by show _ = _; rw [HE.out, if_pos h16]
    have KT : Hid (pnT s a = tkP a) := by show _ = _; unfold pnT; rw [KE.out, if_neg (by decide)]
    obtain ⟨r0, r1, r2, r3, r4⟩ := HRR.out.cells
    obtain ⟨f0, f1, f2, f3, f4⟩ := HRR.out.froz
    clear HT HE
    go_wp2_with fail
    exact bodyPost_ret (results_two (p := 4) (u := 5) (ty := 138) rfl _ _ (w.heap.size + 1) 138 (tkA (tkP a)) (0, 0) _ rfl (HRR.out.put (tkP a)) Tryz.underlying138 rfl (by kernel_rfl)) rfl ⟨by rw [KT.out, KE.out]; rfl, below_put HB.out (by omega) _ _ _ _ _⟩
  · have h16' : ¬ (16 : Int) < (d : Int) - (a : Int) := by omega
    have KE : Hid (nmE s a = 0) := by show _ = _; rw [HE.out, if_neg h16]
    obtain ⟨x, ex⟩ : ∃ x, s.extract a d = x := ⟨_, rfl⟩
    have KT : Hid (pnT s a = ⟨if isW x = true then 1 else 2, x, 0, 0, a⟩) := by show _ = _; unfold pnT; rw [KE.out, if_pos rfl, HT.out, if_neg h16, ex]
    have hY : TkH (W.alloc (.cells (tkA ⟨2, x, 0, 0, a⟩) 138)) W.heap.size ⟨2, x, 0, 0, a⟩ := heap_new W _
    rw [hz0] at hY
    have hR : TkH (W.alloc (.cells (tkA ⟨2, x, 0, 0, a⟩) 138)) (w.heap.size + 1) tk0 := heap_old HRR.out HRR.out.lt
    have hB2 := HB.out.alloc HB.out.size (.cells (tkA ⟨2, x, 0, 0, a⟩) 138)
    have hT2 := HTab.out.on (below_new W (.cells (tkA ⟨2, x, 0, 0, a⟩) 138))
    obtain ⟨V, eV⟩ : ∃ V, W.alloc (.cells (tkA ⟨2, x, 0, 0, a⟩) 138) = V := ⟨_, rfl⟩
    rw [eV] at hY hR hB2 hT2
    have HY := hY.hid
    have HR2 := hR.hid
    have HB2 : Hid (Below w.heap.size w V) := hB2
    have cW := wordP_any x V hT2
    unfold tkA at eV
    dsimp only at eV
    clear HT HE hY hR hB2 hT2
    obtain ⟨z0, z1, z2, z3, z4⟩ := HY.out.cells
    go_wp2_with fail
    clear eV
    refine cW.mono ?_
    rintro _ v ⟨rfl, e⟩
    obtain rfl := e.symm
    clear cW
    cases hw : isW x
    · have KT2 : Hid (pnT s a = ⟨2, x, 0, 0, a⟩) := by show _ = _; rw [KT.out, hw]; rfl
      obtain ⟨r0, r1, r2, r3, r4⟩ := HR2.out.cells
      obtain ⟨f0, f1, f2, f3, f4⟩ := HR2.out.froz
      clear KT
      go_wp2_with fail
      exact bodyPost_ret (results_two (p := 4) (u := 5) (ty := 138) rfl _ _ (w.heap.size + 1) 138 (tkA ⟨2, x, 0, 0, a⟩) (0, 0) _ rfl (HR2.out.put ⟨2, x, 0, 0, a⟩) Tryz.underlying138 rfl (by kernel_rfl)) rfl ⟨by rw [KT2.out, KE.out]; rfl, below_put HB2.out (by omega) _ _ _ _ _⟩
    · have KT2 : Hid (pnT s a = ⟨1, x, 0, 0, a⟩) := by show _ = _; rw [KT.out, hw]; rfl
      obtain ⟨U, eU⟩ : ∃ U, V.setCell ⟨w.heap.size + 2, 0, none⟩ (.int .u8 1) = U := ⟨_, rfl⟩
      have HY3 : Hid (TkH U (w.heap.size + 2) ⟨1, x, 0, 0, a⟩) := by show TkH U _ _; rw [← eU]; exact heap_set _ HY.out
      have HR3 : Hid (TkH U (w.heap.size + 1) tk0) := by show TkH U _ _; rw [← eU]; exact (Below.heap_setCell _ _ _ _ (by simp)).trans HR2.out
      have hB4 : Below w.heap.size w U := by rw [← eU]; exact HB2.out.setCell (p := ⟨w.heap.size + 2, 0, none⟩) (by simp) _
      obtain ⟨g0, g1, g2, g3, g4⟩ := HY.out.froz
      obtain ⟨y0, y1, y2, y3, y4⟩ := HY3.out.cells
      obtain ⟨r0, r1, r2, r3, r4⟩ := HR3.out.cells
      obtain ⟨f0, f1, f2, f3, f4⟩ := HR3.out.froz
      clear KT
      go_wp2_with fail
      exact bodyPost_ret (results_two (p := 4) (u := 5) (ty := 138) rfl _ _ (w.heap.size + 1) 138 (tkA ⟨1, x, 0, 0, a⟩) (0, 0) _ rfl (HR3.out.put ⟨1, x, 0, 0, a⟩) Tryz.underlying138 rfl (by kernel_rfl)) rfl ⟨by rw [KT2.out, KE.out]; rfl, below_put hB4 (by omega) _ _ _ _ _⟩
end Go.Proofs.YtighocmdlifheaaGreatDoor

/-
  Plain: what a token is, by the bytes from its place on alone; it hangs on nothing behind a byte that ends it.
-/
namespace Go.Proofs.YtighocmdlifheaaGreatDoor

def mB (l : List UInt8) (i : Nat) : Bool := decide ((mk i).size ≤ l.length) && (l.take (mk i).size == (mk i).data.toList)
def mO (l : List UInt8) : Option Nat := (List.range 23).find? (mB l)
def nE (l : List UInt8) (d : Nat) : Nat := if nbTy (l.drop d) = 1 then d else d + 1
/-- Kind, bytes, type, number; nothing, if it is none. -/
def lx (l : List UInt8) : Option (Int × Nat × Int × Int) :=
  if hdB letB l = true then (if lead goB l > 16 then none else some (if isW ⟨(l.take (lead goB l)).toArray⟩ = true then 1 else 2, lead goB l, 0, 0))
  else if hdB digB l = true then
    (match nmS l 0 0 with
    | none => none
    | some (n, d) => if n > 9223372036854775807 ∨ (d > 1 ∧ hd0 l = true) then none
      else if badH (l.drop (nE l d)) = true then none else some (3, nE l d, nbTy (l.drop d), n))
  else (match mO l with | none => none | some i => some (4, (mk i).size, 0, 0))
def lxE (l : List UInt8) : Int := if (lx l).isSome = true then 0 else if hdB letB l = true then 112 else if hdB digB l = true then 113 else 111
def tkOf (l : List UInt8) (d : Nat) : Tk := match lx l with | some (k, n, ty, v) => ⟨k, ⟨(l.take n).toArray⟩, ty, v, d⟩ | none => tk0
theorem ext_list (s : ByteArray) (a n : Nat) : (s.extract a (a + n)).data.toList = (rest s a).take n := by
  unfold rest
  rw [ByteArray.data_extract, Array.toList_extract]
  simp [List.extract_eq_take_drop]
theorem ext_eq (s : ByteArray) (a n : Nat) : s.extract a (a + n) = ⟨((rest s a).take n).toArray⟩ := str_eq (by rw [ext_list])
theorem rest_drop (s : ByteArray) (a n : Nat) : (rest s a).drop n = rest s (a + n) := by unfold rest; rw [List.drop_drop]
theorem mB_mkB (s : ByteArray) (a : Nat) (ha : a ≤ s.size) (i : Nat) : mB (rest s a) i = mkB s a i := by
  unfold mB mkB
  rw [ext_list, rest_len]
  congr 1
  by_cases h : (mk i).size ≤ s.size - a
  · rw [decide_eq_true h, decide_eq_true (by omega)]
  · rw [decide_eq_false h, decide_eq_false (by omega)]
theorem mO_mkO (s : ByteArray) (a : Nat) (ha : a ≤ s.size) : mO (rest s a) = mkO s a := by
  unfold mO mkO
  congr 1
  funext i
  exact mB_mkB s a ha i
theorem mO_take {l : List UInt8} {i : Nat} (h : mO l = some i) : i < 23 ∧ l.take (mk i).size = (mk i).data.toList ∧ (mk i).size ≤ l.length := by
  unfold mO at h
  rw [List.find?_range_eq_some] at h
  obtain ⟨h1, h2, _⟩ := h
  unfold mB at h1
  rw [Bool.and_eq_true] at h1
  exact ⟨by simpa using h2, by simpa using h1.2, of_decide_eq_true h1.1⟩
/-- What stands at a place, by the bytes from there on. -/
theorem one_lx (s : ByteArray) (f : Nat) (hf : f ≤ s.size) (h : oneP s f ≠ s.size) :
    oneT s f = tkOf (rest s (oneP s f)) (oneP s f) ∧ oneE s f = lxE (rest s (oneP s f)) := by
  have hP := oneP_le s f hf
  unfold oneT oneE
  generalize oneP s f = d at *
  rw [if_neg h, if_neg h]
  unfold tkOf lxE lx
  by_cases hl : hdB letB (rest s d) = true
  · rw [if_pos hl, if_pos hl, if_pos hl, if_pos hl]
    unfold nmT nmE
    by_cases hk : lead goB (rest s d) > 16
    · rw [if_pos hk, if_pos hk, if_pos hk]; exact ⟨rfl, rfl⟩
    · rw [if_neg hk, if_neg hk, if_neg hk, ext_eq]; exact ⟨rfl, rfl⟩
  rw [if_neg hl, if_neg hl, if_neg hl, if_neg hl]
  by_cases hg : hdB digB (rest s d) = true
  · rw [if_pos hg, if_pos hg, if_pos hg, if_pos hg]
    unfold nbT nbE nbO
    cases hm : nmS (rest s d) 0 0 with
    | none => exact ⟨rfl, rfl⟩
    | some q =>
      obtain ⟨n, k⟩ := q
      have e1 : (if nbTy (rest s (d + k)) = 1 then d + k else d + k + 1) = d + nE (rest s d) k := by
        unfold nE
        rw [rest_drop]
        split <;> rfl
      simp only [e1, rest_drop]
      by_cases c1 : n > 9223372036854775807 ∨ (k > 1 ∧ hd0 (rest s d) = true)
      · simp [if_pos c1]
      · simp only [if_neg c1]
        by_cases c2 : badH (rest s (d + nE (rest s d) k)) = true
        · simp [if_pos c2]
        · simp [if_neg c2, ext_eq]
  rw [if_neg hg, if_neg hg, if_neg hg, if_neg hg]
  unfold mkT mkE
  rw [mO_mkO s d hP]
  cases hm : mkO s d with
  | none => exact ⟨rfl, rfl⟩
  | some i =>
    have := (mO_take (by rw [mO_mkO s d hP]; exact hm : mO (rest s d) = some i)).2.1
    refine ⟨?_, rfl⟩
    show (⟨4, mk i, 0, 0, d⟩ : Tk) = ⟨4, ⟨(List.take (mk i).size (rest s d)).toArray⟩, 0, 0, d⟩
    rw [this]

/-- A byte that ends whatever stands ahead of it. -/
def stopB (c : UInt8) : Bool := decide (c.toNat = 32) || decide (c.toNat = 9) || decide (c.toNat = 10) || decide (c.toNat = 13) || decide (c.toNat = 35)
theorem stop_of {c : UInt8} (h : stopB c = true) : c.toNat = 32 ∨ c.toNat = 9 ∨ c.toNat = 10 ∨ c.toNat = 13 ∨ c.toNat = 35 := by
  unfold stopB at h
  simpa [or_assoc] using h
theorem stop_go {c : UInt8} (h : stopB c = true) : goB c = false ∧ upB c = false ∧ digB c = false ∧ letB c = false := by
  have := stop_of h
  have a1 : letB c = false := by unfold letB; exact decide_eq_false (by omega)
  have a2 : digB c = false := by unfold digB; exact decide_eq_false (by omega)
  refine ⟨?_, ?_, a2, a1⟩
  · unfold goB; rw [a1, a2, decide_eq_false (by omega)]; rfl
  · unfold upB; exact decide_eq_false (by omega)
theorem lead_app {p : UInt8 → Bool} {c : UInt8} (h : p c = false) (m : List UInt8) : ∀ l : List UInt8, lead p (l ++ c :: m) = lead p l
  | [] => by simp [lead, h]
  | x :: l => by
    have := lead_app h m l
    simp only [List.cons_append, lead, this]
theorem nmS_app {c : UInt8} (h : digB c = false) (m : List UInt8) : ∀ (l : List UInt8) (n k : Nat), nmS (l ++ c :: m) n k = nmS l n k
  | [], n, k => by simp [nmS, h]
  | x :: l, n, k => by
    have := nmS_app h m l
    simp only [List.cons_append, nmS, this]
theorem hdB_app {p : UInt8 → Bool} {c : UInt8} (m : List UInt8) : ∀ l : List UInt8, l ≠ [] → hdB p (l ++ c :: m) = hdB p l
  | [], h => absurd rfl h
  | _ :: _, _ => rfl
theorem hd0_app {c : UInt8} (m : List UInt8) : ∀ l : List UInt8, l ≠ [] → hd0 (l ++ c :: m) = hd0 l
  | [], h => absurd rfl h
  | _ :: _, _ => rfl
theorem nbTy_stop {c : UInt8} (h : stopB c = true) (m : List UInt8) : ∀ l : List UInt8, nbTy (l ++ c :: m) = nbTy l
  | [] => by
    have := stop_of h
    show (if c.toNat = 113 then (2 : Int) else if c.toNat = 112 then 3 else if c.toNat = 116 then 4 else 1) = 1
    rw [if_neg (by omega), if_neg (by omega), if_neg (by omega)]
  | _ :: _ => rfl
theorem badH_stop {c : UInt8} (h : stopB c = true) (m : List UInt8) : ∀ l : List UInt8, badH (l ++ c :: m) = badH l
  | [] => by
    have := stop_go h
    show (goB c || upB c) = false
    rw [this.1, this.2.1]; rfl
  | _ :: _ => rfl
theorem mB_stop {c : UInt8} (h : stopB c = true) (m : List UInt8) {l : List UInt8} (hl : l ≠ []) {i : Nat} (hi : i < 23) : mB (l ++ c :: m) i = mB l i := by
  unfold mB
  have hs := mk_size i
  by_cases h2 : (mk i).size ≤ l.length
  · rw [decide_eq_true h2, decide_eq_true (by simp; omega), List.take_append_of_le_length h2]
  · rw [decide_eq_false h2]
    have h1 : 0 < l.length := List.length_pos_iff.2 hl
    have e2 : (mk i).size = 2 := by omega
    have e1 : l.length = 1 := by omega
    obtain ⟨x, rfl⟩ : ∃ x, l = [x] := List.length_eq_one_iff.1 e1
    have hk : ∀ y ∈ marksL, y.size = 2 → ∃ a b : UInt8, y.data.toList = [a, b] ∧ stopB b = false := by
      intro y hy hy2
      have h0 : ∀ y ∈ marksL, y.size = 2 → stopB (y.data.toList.getD 1 0) = false := by decide
      have h3 := h0 y hy hy2
      have h4 := len_of y
      rw [hy2] at h4
      obtain ⟨a, b, hab⟩ : ∃ a b, y.data.toList = [a, b] := by
        match y.data.toList, h4 with
        | [a, b], _ => exact ⟨a, b, rfl⟩
      rw [hab] at h3
      exact ⟨a, b, hab, h3⟩
    have hmem : mk i ∈ marksL := by
      have hl : i < marksL.length := hi
      unfold mk
      rw [List.getD_eq_getElem?_getD, List.getElem?_eq_getElem hl]
      exact List.getElem_mem hl
    obtain ⟨a, b, hab, hb⟩ := hk _ hmem e2
    rw [e2, hab]
    have : (List.take 2 ([x] ++ c :: m) == [a, b]) = false := by
      apply beq_false_of_ne
      intro h'
      have : c = b := by simpa using (List.cons.inj (List.cons.inj h').2).1
      rw [this] at h
      rw [h] at hb
      exact absurd hb (by decide)
    rw [this]
    simp
theorem mO_stop {c : UInt8} (h : stopB c = true) (m : List UInt8) {l : List UInt8} (hl : l ≠ []) : mO (l ++ c :: m) = mO l := by
  unfold mO
  have : ∀ L : List Nat, (∀ i ∈ L, i < 23) → L.find? (mB (l ++ c :: m)) = L.find? (mB l) := by
    intro L
    induction L with
    | nil => intro _; rfl
    | cons i L ih =>
      intro hL
      rw [List.find?_cons, List.find?_cons, mB_stop h m hl (hL i (by simp)), ih (fun j hj => hL j (by simp [hj]))]
  exact this _ (fun i hi => by simpa using hi)
theorem nmS_le {l : List UInt8} {n d : Nat} (h : nmS l 0 0 = some (n, d)) : d ≤ l.length := by have := (nmS_len _ _ _ _ _ h).2.1; omega
theorem nE_le {l : List UInt8} {d : Nat} (h : d ≤ l.length) : nE l d ≤ l.length := by
  unfold nE
  by_cases e : nbTy (l.drop d) = 1
  · rw [if_pos e]; exact h
  · rw [if_neg e]
    have : d ≠ l.length := by
      intro hd
      apply e
      rw [List.drop_eq_nil_of_le (by omega)]; rfl
    omega
theorem lx_stop {c : UInt8} (h : stopB c = true) (m : List UInt8) {l : List UInt8} (hl : l ≠ []) : lx (l ++ c :: m) = lx l := by
  obtain ⟨g1, g2, g3, g4⟩ := stop_go h
  unfold lx
  rw [hdB_app m l hl, hdB_app m l hl, lead_app g1, nmS_app g3, mO_stop h m hl, hd0_app m l hl, List.take_append_of_le_length (lead_le goB l)]
  cases hm : nmS l 0 0 with
  | none => rfl
  | some q =>
    obtain ⟨n, d⟩ := q
    have hd := nmS_le hm
    have e1 : nbTy ((l ++ c :: m).drop d) = nbTy (l.drop d) := by rw [List.drop_append_of_le_length hd]; exact nbTy_stop h m _
    have e2 : nE (l ++ c :: m) d = nE l d := by unfold nE; rw [e1]
    have e3 : badH ((l ++ c :: m).drop (nE l d)) = badH (l.drop (nE l d)) := by rw [List.drop_append_of_le_length (nE_le hd)]; exact badH_stop h m _
    simp only [e1, e2, e3]
theorem lxE_stop {c : UInt8} (h : stopB c = true) (m : List UInt8) {l : List UInt8} (hl : l ≠ []) : lxE (l ++ c :: m) = lxE l := by
  unfold lxE
  rw [lx_stop h m hl, hdB_app m l hl, hdB_app m l hl]
theorem lx_len {l : List UInt8} {k : Int} {n : Nat} {ty v : Int} (h : lx l = some (k, n, ty, v)) : 0 < n ∧ n ≤ l.length ∧ k ≠ 0 := by
  unfold lx at h
  by_cases hl : hdB letB l = true
  · rw [if_pos hl] at h
    by_cases hk : lead goB l > 16
    · rw [if_pos hk] at h; exact absurd h (by simp)
    · rw [if_neg hk] at h
      simp only [Option.some.injEq, Prod.mk.injEq] at h
      obtain ⟨e1, rfl, _⟩ := h
      refine ⟨lead_pos (hd_go hl), lead_le goB l, ?_⟩
      rw [← e1]; split <;> decide
  rw [if_neg hl] at h
  by_cases hg : hdB digB l = true
  · rw [if_pos hg] at h
    cases hm : nmS l 0 0 with
    | none => rw [hm] at h; exact absurd h (by simp)
    | some q =>
      obtain ⟨n2, d⟩ := q
      have hd := nmS_le hm
      have h3 := (nmS_len _ _ _ _ _ hm).2.2 hg
      rw [hm] at h
      simp only at h
      split at h
      · exact absurd h (by simp)
      · split at h
        · exact absurd h (by simp)
        · simp only [Option.some.injEq, Prod.mk.injEq] at h
          obtain ⟨e1, rfl, _⟩ := h
          refine ⟨?_, nE_le hd, by rw [← e1]; decide⟩
          unfold nE; split <;> omega
  rw [if_neg hg] at h
  cases hm : mO l with
  | none => rw [hm] at h; exact absurd h (by simp)
  | some i =>
    rw [hm] at h
    simp only [Option.some.injEq, Prod.mk.injEq] at h
    obtain ⟨e1, rfl, _⟩ := h
    have := mO_take hm
    exact ⟨mk_pos i this.1, this.2.2, by rw [← e1]; decide⟩
theorem lead_take {p : UInt8 → Bool} : ∀ l : List UInt8, lead p (l.take (lead p l)) = lead p l
  | [] => rfl
  | x :: l => by
    have := lead_take (p := p) l
    by_cases h : p x = true
    · simp [h, lead, this]
    · simp [h, lead]
theorem hdB_take {p : UInt8 → Bool} {n : Nat} (h : 0 < n) : ∀ l : List UInt8, hdB p (l.take n) = hdB p l
  | [] => by simp
  | x :: l => by obtain ⟨m, rfl⟩ : ∃ m, n = m + 1 := ⟨n - 1, by omega⟩; rfl
theorem hd0_take {n : Nat} (h : 0 < n) : ∀ l : List UInt8, hd0 (l.take n) = hd0 l
  | [] => by simp
  | x :: l => by obtain ⟨m, rfl⟩ : ∃ m, n = m + 1 := ⟨n - 1, by omega⟩; rfl
theorem nmS_take : ∀ (l : List UInt8) (n k n' k' e : Nat), nmS l n k = some (n', k') → k' ≤ k + e → nmS (l.take e) n k = some (n', k')
  | [], n, k, n', k', e, h, he => by simpa using h
  | x :: l, n, k, n', k', e, h, he => by
    have hle := nmS_len _ _ _ _ _ h
    cases e with
    | zero =>
      have : k' = k := by omega
      subst this
      have h3 : ¬ digB x = true := fun h' => by have := hle.2.2 h'; omega
      simp only [nmS, if_neg h3] at h
      simpa [nmS] using h
    | succ e =>
      simp only [List.take_succ_cons, nmS] at h ⊢
      by_cases hg : digB x = true
      · rw [if_pos hg] at h ⊢
        by_cases hn : n > 922337203685477580
        · rw [if_pos hn] at h; exact absurd h (by simp)
        · rw [if_neg hn] at h ⊢
          exact nmS_take l _ _ _ _ e h (by omega)
      · rw [if_neg hg] at h ⊢; exact h
theorem nbTy_take {n : Nat} (h : 0 < n) : ∀ l : List UInt8, nbTy (l.take n) = nbTy l
  | [] => by simp
  | x :: l => by obtain ⟨m, rfl⟩ : ∃ m, n = m + 1 := ⟨n - 1, by omega⟩; rfl
theorem mB_take {l : List UInt8} {n i : Nat} (h : mB (l.take n) i = true) : mB l i = true := by
  unfold mB at h ⊢
  rw [Bool.and_eq_true] at h ⊢
  have h1 := of_decide_eq_true h.1
  have h2 : List.take (mk i).size (List.take n l) = (mk i).data.toList := by simpa using h.2
  have h3 : (mk i).size ≤ n := by simp at h1; omega
  rw [List.take_take, Nat.min_eq_left h3] at h2
  refine ⟨decide_eq_true (by simp at h1; omega), by rw [h2]; simp⟩
/-- What was taken is the same by itself. -/
theorem lx_take {l : List UInt8} {k : Int} {n : Nat} {ty v : Int} (h : lx l = some (k, n, ty, v)) : lx (l.take n) = some (k, n, ty, v) := by
  obtain ⟨hn, hnl, _⟩ := lx_len h
  unfold lx at h ⊢
  rw [hdB_take hn, hdB_take hn]
  by_cases hl : hdB letB l = true
  · rw [if_pos hl] at h ⊢
    by_cases hk : lead goB l > 16
    · rw [if_pos hk] at h; exact absurd h (by simp)
    · rw [if_neg hk] at h
      simp only [Option.some.injEq, Prod.mk.injEq] at h
      obtain ⟨e1, rfl, e2, e3⟩ := h
      rw [lead_take, if_neg hk, List.take_take, Nat.min_self, e1, ← e2, ← e3]
  rw [if_neg hl] at h ⊢
  by_cases hg : hdB digB l = true
  · rw [if_pos hg] at h ⊢
    cases hm : nmS l 0 0 with
    | none => rw [hm] at h; exact absurd h (by simp)
    | some q =>
      obtain ⟨n2, d⟩ := q
      have hd := nmS_le hm
      rw [hm] at h
      simp only at h
      by_cases c1 : n2 > 9223372036854775807 ∨ (d > 1 ∧ hd0 l = true)
      · rw [if_pos c1] at h; exact absurd h (by simp)
      rw [if_neg c1] at h
      by_cases c2 : badH (l.drop (nE l d)) = true
      · rw [if_pos c2] at h; exact absurd h (by simp)
      rw [if_neg c2] at h
      simp only [Option.some.injEq, Prod.mk.injEq] at h
      obtain ⟨e1, e2, e3, e4⟩ := h
      have hdn : d ≤ n := by rw [← e2]; unfold nE; split <;> omega
      rw [nmS_take l 0 0 n2 d n hm (by omega)]
      simp only
      have e5 : nbTy ((l.take n).drop d) = nbTy (l.drop d) := by
        rw [List.drop_take]
        by_cases hz : n - d = 0
        · rw [hz, List.take_zero]
          have : nE l d = d := by omega
          unfold nE at this
          by_cases ht : nbTy (l.drop d) = 1
          · rw [ht]; rfl
          · rw [if_neg ht] at this; omega
        · exact nbTy_take (by omega) _
      have e6 : nE (l.take n) d = n := by unfold nE; rw [e5]; exact e2
      rw [hd0_take hn, if_neg c1, e6, e5, List.drop_eq_nil_of_le (by rw [List.length_take]; omega)]
      rw [if_neg (by decide), e1, e3, e4]
  rw [if_neg hg] at h ⊢
  cases hm : mO l with
  | none => rw [hm] at h; exact absurd h (by simp)
  | some i =>
    have ht := mO_take hm
    rw [hm] at h
    simp only [Option.some.injEq, Prod.mk.injEq] at h
    obtain ⟨e1, e2, e3, e4⟩ := h
    have : mO (l.take n) = some i := by
      unfold mO at hm ⊢
      rw [List.find?_range_eq_some] at hm ⊢
      refine ⟨?_, hm.2.1, fun j hj => ?_⟩
      · unfold mB
        rw [Bool.and_eq_true]
        refine ⟨decide_eq_true (by rw [List.length_take]; omega), ?_⟩
        rw [List.take_take, ← e2, Nat.min_self, ht.2.1]; simp
      · have := hm.2.2 j hj
        cases hb : mB (l.take n) j with
        | false => rfl
        | true => rw [mB_take hb] at this; exact absurd this (by simp)
    rw [this]
    simp only
    rw [e1, e2, ← e3, ← e4]
end Go.Proofs.YtighocmdlifheaaGreatDoor
