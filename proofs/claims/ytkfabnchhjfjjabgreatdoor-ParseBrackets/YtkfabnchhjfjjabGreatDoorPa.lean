/-
  The program's own small functions: bytes; the table of words; Word.
-/
import Derived.Test.YtkfabnchhjfjjabGreatDoorLx1
import Derived.Lib.Bytealg
import Derived.LaidLaws
namespace Go.Proofs.YtkfabnchhjfjjabGreatDoor
open Go.RowKit

/-- The table of words lies as the program's text lays it. -/
def Tab (w : World) : Prop := w.var? Tryz.prog "tripwire/lex.words" = some wordsV
theorem words_global : Tryz.prog.globalNamed "tripwire/lex.words" = some 1 := by kernel_rfl
theorem Tab.on {w w' : World} (h : Tab w) (hb : Below w.heap.size w w') : Tab w' := by
  unfold Tab World.var? at *
  rw [words_global] at h ⊢
  simp only [Option.bind_some] at h ⊢
  have hlt : 1 < w.heap.size := by
    rcases Nat.lt_or_ge 1 w.heap.size with h' | h'
    · exact h'
    · rw [Array.getElem?_eq_none h'] at h; simp at h
  rw [hb.block 1 hlt]
  exact h
theorem Tab.cell {w : World} (h : Tab w) (i : Nat) (hi : i < 41) : w.cell? ⟨1, i, none⟩ = some (.string (wd i)) := by
  have := World.var?_cell words_global h i
  rw [this]
  unfold wordsV wd
  have hl : i < wordsL.length := hi
  simp [List.getElem?_map, List.getElem?_eq_getElem hl, List.getD]
theorem Tab.hid {w : World} (h : Tab w) : Hid (Tab w) := h

theorem isLetter_any (c : UInt8) (w : World) : Calls Tryz.prog 87 #[.int .u8 (c.toNat : Int)] w fun e w' => e = .returned (.bool (letB c)) ∧ w' = w := by
  go_enter Tryz.func87, Tryz.ntmps87
  go_wp2
  all_goals go_ret
  all_goals refine ⟨retB ?_, rfl⟩
  all_goals unfold letB
  · have h : 97 ≤ c.toNat := by omega
    by_cases h2 : c.toNat ≤ 122
    · rw [decide_eq_true (show (c.toNat : Int) ≤ 122 by omega), decide_eq_true ⟨h, h2⟩]
    · rw [decide_eq_false (show ¬ (c.toNat : Int) ≤ 122 by omega), decide_eq_false (fun k => h2 k.2)]
  · rw [decide_eq_false (by omega)]
theorem isDigit_any (c : UInt8) (w : World) : Calls Tryz.prog 89 #[.int .u8 (c.toNat : Int)] w fun e w' => e = .returned (.bool (digB c)) ∧ w' = w := by
  go_enter Tryz.func89, Tryz.ntmps89
  go_wp2
  all_goals go_ret
  all_goals refine ⟨retB ?_, rfl⟩
  all_goals unfold digB
  · have h : 48 ≤ c.toNat := by omega
    by_cases h2 : c.toNat ≤ 57
    · rw [decide_eq_true (show (c.toNat : Int) ≤ 57 by omega), decide_eq_true ⟨h, h2⟩]
    · rw [decide_eq_false (show ¬ (c.toNat : Int) ≤ 57 by omega), decide_eq_false (fun k => h2 k.2)]
  · rw [decide_eq_false (by omega)]
theorem isLetter_b {c : UInt8} {b : Bool} (h : letB c = b) (w : World) : Calls Tryz.prog 87 #[.int .u8 (c.toNat : Int)] w fun e w' => e = .returned (.bool b) ∧ w' = w := h ▸ isLetter_any c w
theorem isDigit_b {c : UInt8} {b : Bool} (h : digB c = b) (w : World) : Calls Tryz.prog 89 #[.int .u8 (c.toNat : Int)] w fun e w' => e = .returned (.bool b) ∧ w' = w := h ▸ isDigit_any c w

set_option maxRecDepth 100000 in
theorem slite_any (s : ByteArray) (c : Int) (w : World) : Calls Tryz.prog 112 #[.string s, .int .u8 c] w fun e w' => e = .returned (.int .i64 (Lib.indexByte s.data.toList c.toNat.toUInt8)) ∧ w' = w := by
  go_enter Tryz.func112, Tryz.ntmps112
  go_wp2
  rw [run_callFunc_extern Tryz.func116 (by kernel_rfl) (by kernel_rfl) (by kernel_rfl) (e := Extern.BytealgIndexByte.indexByte) (by kernel_rfl), Lib.run_indexByteString]
  simp only [Result.andThen]
  rw [Oper.upon_value]
  go_wp2
  go_ret
  exact ⟨rfl, rfl⟩
set_option maxRecDepth 100000 in
theorem indexByte_any (s : ByteArray) (c : Int) (w : World) : Calls Tryz.prog 108 #[.string s, .int .u8 c] w fun e w' => e = .returned (.int .i64 (Lib.indexByte s.data.toList c.toNat.toUInt8)) ∧ w' = w := by
  go_enter Tryz.func108, Tryz.ntmps108
  go_wp2_with (go_at_call 112; refine (slite_any _ _ _).mono ?_; rintro e w' ⟨rfl, rfl⟩)
  go_ret
  exact ⟨rfl, rfl⟩

set_option maxHeartbeats 2000000 in
theorem wordP_any (s : ByteArray) (w : World) (ht : Tab w) : Calls Tryz.prog 101 #[.string s] w fun e w' => e = .returned (.bool (isW s)) ∧ w' = w := by
  have HC : Hid (∀ j, j < 41 → w.cell? ⟨1, j, none⟩ = some (.string (wd j))) := ht.cell
  clear ht
  go_enter Tryz.func101, Tryz.ntmps101
  go_wp2_with fail
  go_loop [4] (fun t => ∃ i : Nat, i ≤ 41 ∧ t = .int .i64 i ∧ Hid (∀ j, j < i → ¬ wd j = s)) (fun t => 41 - (intOf t).toNat)
  case atStart => exact ⟨0, by omega, rfl, fun j hj => by omega⟩
  case round =>
    obtain ⟨i, hi, rfl, HR⟩ := hrel
    by_cases hlt : i < 41
    · have hlt' : (i : Int) < 41 := by omega
      have hcell := HC.out i hlt
      obtain ⟨x, ex⟩ : ∃ x, wd i = x := ⟨_, rfl⟩
      rw [ex] at hcell
      by_cases he : x = s
      · have hw := isW_yes hlt (ex.trans he)
        subst he
        go_wp2
        go_ret
        exact ⟨by first | rfl | exact retB hw.symm, rfl⟩
      · have hne := seq_ne he
        have hn : Hid (∀ j, j < i + 1 → ¬ wd j = s) := fun j hj => by
          by_cases e : j = i
          · subst e; rw [ex]; exact he
          · exact HR.out j (by omega)
        clear he ex
        go_wp2
        exact ⟨⟨i + 1, by omega, by go_num, hn⟩, by simp only [intOf]; omega⟩
    · obtain rfl : i = 41 := by omega
      have hw := isW_no HR.out
      go_wp2
      go_ret
      exact ⟨by first | rfl | exact retB hw.symm, rfl⟩

theorem hd_at {s : ByteArray} {i : Nat} (h : i < s.size) {c : UInt8} (hc : s[i] = c) (p : UInt8 → Bool) : hdB p (rest s i) = p c := by rw [rest_at s i h, hc]; rfl
theorem hd_out {s : ByteArray} {i : Nat} (h : s.size ≤ i) (p : UInt8 → Bool) : hdB p (rest s i) = false := by rw [rest_end s i h]; rfl
set_option maxHeartbeats 2000000 in
theorem wordC_any (s : ByteArray) (i B : Nat) (w : World) (hB : w.cell? ⟨B, 0, none⟩ = some (.string s)) (hi : i ≤ s.size) :
    Calls Tryz.prog 100 #[.int .i64 i, .pointer (some ⟨B, 0, none⟩)] w fun e w' => e = .returned (.bool (hdB goB (rest s i))) ∧ w' = w := by
  by_cases hlt : i < s.size
  · have hlt' : (i : Int) < (s.size : Int) := by omega
    obtain ⟨c, hc⟩ : ∃ c, s[i] = c := ⟨_, rfl⟩
    rw [hd_at hlt hc]
    cases b1 : letB c
    · cases b2 : digB c
      · have hg : Hid (goB c = ((c.toNat : Int) == 95)) := by
          show _ = _
          unfold goB
          rw [b1, b2]
          by_cases h : c.toNat = 95
          · rw [h]; rfl
          · have h' : ((c.toNat : Int) == 95) = false := beq_false_of_ne (by omega)
            rw [h']; simp [h]
        go_enter Tryz.func100, Tryz.ntmps100
        go_wp2_with (first | (go_at_call 87; refine (isLetter_b b1 _).mono ?_; rintro _ v ⟨rfl, e⟩; obtain rfl := e.symm) | (go_at_call 89; refine (isDigit_b b2 _).mono ?_; rintro _ v ⟨rfl, e⟩; obtain rfl := e.symm))
        all_goals go_ret
        all_goals exact ⟨by rw [hg.out]; rfl, rfl⟩
      · have hg : goB c = true := by unfold goB; rw [b1, b2]; rfl
        rw [hg]
        go_enter Tryz.func100, Tryz.ntmps100
        go_wp2_with (first | (go_at_call 87; refine (isLetter_b b1 _).mono ?_; rintro _ v ⟨rfl, e⟩; obtain rfl := e.symm) | (go_at_call 89; refine (isDigit_b b2 _).mono ?_; rintro _ v ⟨rfl, e⟩; obtain rfl := e.symm))
        all_goals go_ret
        all_goals exact ⟨rfl, rfl⟩
    · have hg : goB c = true := by unfold goB; rw [b1]; rfl
      rw [hg]
      go_enter Tryz.func100, Tryz.ntmps100
      go_wp2_with (go_at_call 87; refine (isLetter_b b1 _).mono ?_; rintro _ v ⟨rfl, e⟩; obtain rfl := e.symm)
      all_goals go_ret
      all_goals exact ⟨rfl, rfl⟩
  · rw [hd_out (by omega)]
    have hn : ¬ (i : Int) < (s.size : Int) := by omega
    go_enter Tryz.func100, Tryz.ntmps100
    go_wp2_with fail
    go_ret
    exact ⟨rfl, rfl⟩
set_option maxHeartbeats 2000000 in
theorem numC_any (s : ByteArray) (i B : Nat) (w : World) (hB : w.cell? ⟨B, 0, none⟩ = some (.string s)) (hi : i ≤ s.size) :
    Calls Tryz.prog 102 #[.int .i64 i, .pointer (some ⟨B, 0, none⟩)] w fun e w' => e = .returned (.bool (hdB digB (rest s i))) ∧ w' = w := by
  by_cases hlt : i < s.size
  · have hlt' : (i : Int) < (s.size : Int) := by omega
    obtain ⟨c, hc⟩ : ∃ c, s[i] = c := ⟨_, rfl⟩
    rw [hd_at hlt hc]
    go_enter Tryz.func102, Tryz.ntmps102
    go_wp2_with (go_at_call 89; refine (isDigit_any _ _).mono ?_; rintro _ v ⟨rfl, e⟩; obtain rfl := e.symm)
    all_goals go_ret
    all_goals exact ⟨rfl, rfl⟩
  · rw [hd_out (by omega)]
    have hn : ¬ (i : Int) < (s.size : Int) := by omega
    go_enter Tryz.func102, Tryz.ntmps102
    go_wp2_with fail
    go_ret
    exact ⟨rfl, rfl⟩
set_option maxHeartbeats 2000000 in
theorem reachW_any (s : ByteArray) (a B : Nat) (hs : s.size ≤ 140737488355328) (ha : a ≤ s.size) (w : World) (hB : w.cell? ⟨B, 0, none⟩ = some (.string s)) (d : Nat) (hd : Hid (d = a + lead goB (rest s a))) :
    Calls Tryz.prog 99 #[.int .i64 a, .func (.func 100) #[] #[.pointer (some ⟨B, 0, none⟩)]] w fun e w' => e = .returned (.int .i64 d) ∧ w' = w := by
  go_enter Tryz.func99, Tryz.ntmps99
  go_wp2_with fail
  go_loop [0] (fun t => ∃ i : Nat, a ≤ i ∧ i ≤ s.size ∧ t = .int .i64 i ∧ Hid (d = i + lead goB (rest s i))) (fun t => s.size - (intOf t).toNat)
  case atStart => exact ⟨a, Nat.le_refl _, ha, rfl, hd⟩
  case round =>
    obtain ⟨i, hi1, hi2, rfl, HR⟩ := hrel
    clear hd
    have cF := wordC_any s i B w hB hi2
    cases hb : hdB goB (rest s i)
    · rw [hb] at cF
      have hs2 : Hid (i = d) := by
        show _ = _
        rw [HR.out]
        cases hr : rest s i with
        | nil => rfl
        | cons c l => rw [hr] at hb; rw [lead, if_neg (by rw [show goB c = false from hb]; decide)]; rfl
      clear hb
      go_wp2_with fail
      refine cF.mono ?_
      rintro _ v ⟨rfl, e⟩
      obtain rfl := e.symm
      go_wp2_with fail
      go_ret
      exact ⟨retI (by rw [hs2.out]), rfl⟩
    · rw [hb] at cF
      have hlt : i < s.size := by
        by_cases h : i < s.size
        · exact h
        · rw [hd_out (by omega)] at hb; cases hb
      have hs2 : Hid (d = (i + 1) + lead goB (rest s (i + 1))) := by
        show _ = _
        rw [HR.out]
        have hr := rest_at s i hlt
        rw [hr] at hb
        unfold hdB at hb
        rw [hr, lead, if_pos hb]; omega
      clear hb HR
      go_wp2_with fail
      refine cF.mono ?_
      rintro _ v ⟨rfl, e⟩
      obtain rfl := e.symm
      go_wp2_with fail
      exact ⟨⟨i + 1, by omega, by omega, by go_num, hs2⟩, by simp only [intOf]; omega⟩
set_option maxHeartbeats 2000000 in
theorem reachN_any (s : ByteArray) (a B : Nat) (hs : s.size ≤ 140737488355328) (ha : a ≤ s.size) (w : World) (hB : w.cell? ⟨B, 0, none⟩ = some (.string s)) (d : Nat) (hd : Hid (d = a + lead digB (rest s a))) :
    Calls Tryz.prog 99 #[.int .i64 a, .func (.func 102) #[] #[.pointer (some ⟨B, 0, none⟩)]] w fun e w' => e = .returned (.int .i64 d) ∧ w' = w := by
  go_enter Tryz.func99, Tryz.ntmps99
  go_wp2_with fail
  go_loop [0] (fun t => ∃ i : Nat, a ≤ i ∧ i ≤ s.size ∧ t = .int .i64 i ∧ Hid (d = i + lead digB (rest s i))) (fun t => s.size - (intOf t).toNat)
  case atStart => exact ⟨a, Nat.le_refl _, ha, rfl, hd⟩
  case round =>
    obtain ⟨i, hi1, hi2, rfl, HR⟩ := hrel
    clear hd
    have cF := numC_any s i B w hB hi2
    cases hb : hdB digB (rest s i)
    · rw [hb] at cF
      have hs2 : Hid (i = d) := by
        show _ = _
        rw [HR.out]
        cases hr : rest s i with
        | nil => rfl
        | cons c l => rw [hr] at hb; rw [lead, if_neg (by rw [show digB c = false from hb]; decide)]; rfl
      clear hb
      go_wp2_with fail
      refine cF.mono ?_
      rintro _ v ⟨rfl, e⟩
      obtain rfl := e.symm
      go_wp2_with fail
      go_ret
      exact ⟨retI (by rw [hs2.out]), rfl⟩
    · rw [hb] at cF
      have hlt : i < s.size := by
        by_cases h : i < s.size
        · exact h
        · rw [hd_out (by omega)] at hb; cases hb
      have hs2 : Hid (d = (i + 1) + lead digB (rest s (i + 1))) := by
        show _ = _
        rw [HR.out]
        have hr := rest_at s i hlt
        rw [hr] at hb
        unfold hdB at hb
        rw [hr, lead, if_pos hb]; omega
      clear hb HR
      go_wp2_with fail
      refine cF.mono ?_
      rintro _ v ⟨rfl, e⟩
      obtain rfl := e.symm
      go_wp2_with fail
      exact ⟨⟨i + 1, by omega, by omega, by go_num, hs2⟩, by simp only [intOf]; omega⟩
end Go.Proofs.YtkfabnchhjfjjabGreatDoor
