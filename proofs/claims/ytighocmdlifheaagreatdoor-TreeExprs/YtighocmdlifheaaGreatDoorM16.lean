import Derived.Test.YtighocmdlifheaaGreatDoorM15
import Derived.Test.YtighocmdlifheaaGreatDoorDp
import Derived.Defers
import Derived.Recover
import Derived.Laws.Pointers
/-
  The document's depth of an expression that may be.
-/
namespace Go.Proofs.YtighocmdlifheaaGreatDoor
open Go.RowKit
set_option linter.unusedVariables false
set_option linter.unusedSimpArgs false
theorem ite_i {p : Prop} [Decidable p] {a b : Int} : (if p then a else b) = (if p then a else b) := rfl
theorem maxd {D n : Nat} {y z : Int} (hy : (D : Int) = y) (hz : (n : Int) = z) (h : y < z) : Value.int .i64 z = .int .i64 ((Nat.max D n : Nat) : Int) := by
  congr 1
  rw [← hy, ← hz] at h
  rw [← hz]
  show (n : Int) = ((max D n : Nat) : Int)
  omega
theorem maxe {D n : Nat} {y z : Int} (hy : (D : Int) = y) (hz : (n : Int) = z) (h : ¬ y < z) : Value.int .i64 y = .int .i64 ((Nat.max D n : Nat) : Int) := by
  congr 1
  rw [← hy, ← hz] at h
  rw [← hy]
  show (D : Int) = ((max D n : Nat) : Int)
  omega
theorem kind_form {h : Hd} {a : Option Addr} {c : Nat} {ks : List Nd} (f : formB (.mk h a c ks) = true) (i : Nat) (hi : i < ks.length) : h.k = 5 ∨ h.k = 8 ∨ h.k = 9 ∨ h.k = 7 ∨ h.k = 6 := by
  simp only [formB, oneH, Bool.and_eq_true] at f
  have g := f.1.2
  unfold fitB at g
  have hpos : ks.length ≠ 0 := by omega
  by_cases h5 : h.k = 5
  · exact .inl h5
  by_cases h8 : h.k = 8
  · exact .inr (.inl h8)
  by_cases h9 : h.k = 9
  · exact .inr (.inr (.inl h9))
  by_cases h7 : h.k = 7
  · exact .inr (.inr (.inr (.inl h7)))
  by_cases h6 : h.k = 6
  · exact .inr (.inr (.inr (.inr h6)))
  exfalso
  by_cases h1 : h.k = 1
  · simp [h1, hpos] at g
  by_cases h2 : h.k = 2
  · simp [h2, hpos] at g
  by_cases h3 : h.k = 3
  · simp [h3, hpos] at g
  by_cases h4 : h.k = 4
  · simp [h4, hpos] at g
  simp [h1, h2, h3, h4, h5, h6, h7, h8, h9] at g
theorem inc_t (n : Nat) : inc true n = n + 1 := rfl
theorem inc_f (n : Nat) : inc false n = n := rfl
set_option maxRecDepth 1000000 in
set_option maxHeartbeats 8000000 in
theorem rdepth_any : ∀ (m : Nd) (w : World), Lies w m → size m ≤ 1000000000000 → formB m = true → Calls Tryz.prog 84 #[.agg m.vals] w fun e w' => e = .returned (.int .i64 (dep m)) ∧ Below w.heap.size w w' := by
  refine Nd.ind fun h a c ks ih w hl hz hf => ?_
  have HI : Hid (∀ k ∈ ks, ∀ (w : World), Lies w k → size k ≤ 1000000000000 → formB k = true → Calls Tryz.prog 84 #[.agg k.vals] w fun e w' => e = .returned (.int .i64 (dep k)) ∧ Below w.heap.size w w') := ih
  have HL := hl.hid
  have HZ : Hid (size (.mk h a c ks) ≤ 1000000000000) := hz
  have HF : Hid (formB (.mk h a c ks) = true) := hf
  clear ih hl hz hf
  show Calls Tryz.prog 84 #[.agg #[.int .u8 h.k, .int .u8 h.o, .int .u8 h.t, .int .i64 h.n, .int .u8 h.f, .string h.x, .slice a ks.length c, .int .i64 h.p]] w _
  have HN0 : Hid (NdH (w.alloc (.cells #[.int .u8 h.k, .int .u8 h.o, .int .u8 h.t, .int .i64 h.n, .int .u8 h.f, .string h.x, .slice a ks.length c, .int .i64 h.p] 55)) w.heap.size (.mk h a c ks)) := heap_new w _
  go_enter Tryz.func84, Tryz.ntmps84
  go_wp2_with fail
  go_loopw [3, 4] (fun d t wr => ∃ (i D : Nat), i ≤ ks.length ∧ t = .int .i64 i ∧ d = .int .i64 D ∧ Below (w.alloc (.cells #[.int .u8 h.k, .int .u8 h.o, .int .u8 h.t, .int .i64 h.n, .int .u8 h.f, .string h.x, .slice a ks.length c, .int .i64 h.p] 55)).heap.size (w.alloc (.cells #[.int .u8 h.k, .int .u8 h.o, .int .u8 h.t, .int .i64 h.n, .int .u8 h.f, .string h.x, .slice a ks.length c, .int .i64 h.p] 55)) wr ∧ Hid (deps h 0 ks = Nat.max D (deps h i (ks.drop i)))) (fun _ t _ => ks.length - (intOf t).toNat)
  case atStart => exact ⟨0, 0, by omega, rfl, rfl, Below.refl _ _, by show _ = _; simp⟩
  case round =>
    obtain ⟨i, D, hi, rfl, rfl, hbr, HR⟩ := hrel
    have HBR : Hid (Below w.heap.size w wr) := below2 (below_new _ _) hbr
    have HNR : Hid (NdH wr w.heap.size (.mk h a c ks)) := HN0.out.on hbr
    have HBr : Hid (Below (w.alloc (.cells #[.int .u8 h.k, .int .u8 h.o, .int .u8 h.t, .int .i64 h.n, .int .u8 h.f, .string h.x, .slice a ks.length c, .int .i64 h.p] 55)).heap.size (w.alloc (.cells #[.int .u8 h.k, .int .u8 h.o, .int .u8 h.t, .int .i64 h.n, .int .u8 h.f, .string h.x, .slice a ks.length c, .int .i64 h.p] 55)) wr) := hbr
    clear hbr
    by_cases hlt : i < ks.length
    · have hlt' : (i : Int) < (ks.length : Int) := by omega
      have hmx : (i : Int) + 1 ≤ 9223372036854775807 := by
        have h1 := HL.out.max
        have h2 := HL.out.cap
        simp only [Nd.ks, Nd.c] at h1 h2
        omega
      obtain ⟨b, o, e, hat⟩ := (HL.out.on HBR.out).kid i hlt
      have e2 : a = some ⟨b, o, none⟩ := e
      clear e
      subst e2
      have cI := HI.out ks[i] (nth_mem hlt)
      have HLk : Hid (Lies w ks[i]) := HL.out.sub ks[i] (nth_mem hlt)
      have hsz : size ks[i] ≤ 1000000000000 := by have h1 := size_mem (nth_mem hlt); have h2 := HZ.out; simp only [size] at h2; omega
      have hfk : formB ks[i] = true := form_kid HF.out (nth_mem hlt)
      have hdk := dep_size ks[i]
      have HD : Hid (deps h 0 ks = Nat.max D (Nat.max (inc (dwn h i) (inc (decide (lvl ks[i].h < ask h i)) (dep ks[i]))) (deps h (i + 1) (ks.drop (i + 1))))) := by show _ = _; rw [HR.out, drop_nth hlt]; rfl
      have hle : i ≤ 1000000000000 := by have h1 := len_sizes ks; have h2 := HZ.out; simp only [size] at h2; omega
      have hkind : h.k = 5 ∨ h.k = 8 ∨ h.k = 9 ∨ h.k = 7 ∨ h.k = 6 := kind_form HF.out i hlt
      obtain ⟨k, ek⟩ : ∃ k, ks[i] = k := ⟨_, rfl⟩
      have hat2 : NdAt wr b (o + i * 8) k := by rw [← ek]; exact hat
      clear hat
      have cB := fun v (hv : Lies v (.mk h (some ⟨b, o, none⟩) c ks)) => rbr_any h (some ⟨b, o, none⟩) c ks i v hv hlt (by omega) (ok_form HF.out) k ek (by rw [← ek]; exact ok_formX hfk)
      rw [ek] at cI HLk hsz HD hdk hfk
      obtain ⟨y0, y1, y2, y3, y4, y5, y6, y7⟩ := hat2
      obtain ⟨d, ed⟩ : ∃ d, dep k = d := ⟨_, rfl⟩
      obtain ⟨B, eB⟩ : ∃ B, decide (lvl k.h < ask h i) = B := ⟨_, rfl⟩
      rw [ed] at cI HD hdk
      rw [eB] at HD
      simp only [eB] at cB
      have cI : ∀ v, Lies v k → Calls Tryz.prog 84 #[.agg #[.int .u8 k.h.k, .int .u8 k.h.o, .int .u8 k.h.t, .int .i64 k.h.n, .int .u8 k.h.f, .string k.h.x, .slice k.a k.ks.length k.c, .int .i64 k.h.p]] v fun e w' => e = .returned (.int .i64 d) ∧ Below v.heap.size v w' := fun v hv => cI v hv hsz hfk
      have hd1 : (d : Int) + 1 ≤ 9223372036854775807 := by omega
      have hd2 : (d : Int) + 1 + 1 ≤ 9223372036854775807 := by omega
      obtain ⟨x0, x1, x2, x3, x4, x5, x6, x7⟩ := HNR.out.eight
      simp only [Nd.h, Nd.a, Nd.c, Nd.ks] at x0 x1 x2 x3 x4 x5 x6 x7
      clear ek ed eB HR hdk hsz hle hfk
      go_wp2_with fail
      refine (cI _ (HLk.out.on HBR.out)).mono ?_
      rintro e w5 ⟨rfl, hb5⟩
      have HB5 : Hid (Below (w.alloc (.cells #[.int .u8 h.k, .int .u8 h.o, .int .u8 h.t, .int .i64 h.n, .int .u8 h.f, .string h.x, .slice (some ⟨b, o, none⟩) ks.length c, .int .i64 h.p] 55)).heap.size (w.alloc (.cells #[.int .u8 h.k, .int .u8 h.o, .int .u8 h.t, .int .i64 h.n, .int .u8 h.f, .string h.x, .slice (some ⟨b, o, none⟩) ks.length c, .int .i64 h.p] 55)) w5) := below2 HBr.out hb5
      have HN5 : Hid (NdH w5 w.heap.size (.mk h (some ⟨b, o, none⟩) c ks)) := HNR.out.on hb5
      have HL5 : Hid (Lies w5 (.mk h (some ⟨b, o, none⟩) c ks)) := (HL.out.on HBR.out).on hb5
      clear cI hb5 x0 x1 x2 x3 x4 x5 x6 x7 y0 y1 y2 y3 y4 y5 y6 y7
      obtain ⟨x0, x1, x2, x3, x4, x5, x6, x7⟩ := HN5.out.eight
      simp only [Nd.h, Nd.a, Nd.c, Nd.ks] at x0 x1 x2 x3 x4 x5 x6 x7
      go_wp2_with fail
      refine (cB _ HL5.out).mono ?_
      rintro e w6 ⟨rfl, hb6⟩
      have HB6 : Hid (Below (w.alloc (.cells #[.int .u8 h.k, .int .u8 h.o, .int .u8 h.t, .int .i64 h.n, .int .u8 h.f, .string h.x, .slice (some ⟨b, o, none⟩) ks.length c, .int .i64 h.p] 55)).heap.size (w.alloc (.cells #[.int .u8 h.k, .int .u8 h.o, .int .u8 h.t, .int .i64 h.n, .int .u8 h.f, .string h.x, .slice (some ⟨b, o, none⟩) ks.length c, .int .i64 h.p] 55)) w6) := below2 HB5.out hb6
      have HN6 : Hid (NdH w6 w.heap.size (.mk h (some ⟨b, o, none⟩) c ks)) := HN5.out.on hb6
      clear cB hb6 x0 x1 x2 x3 x4 x5 x6 x7
      have x0 := HN6.out.eight.1
      simp only [Nd.h] at x0
      obtain ⟨z, ez⟩ : ∃ z : Int, (d : Int) = z := ⟨_, rfl⟩
      obtain ⟨z1, ez1⟩ : ∃ z1 : Int, (d : Int) + 1 = z1 := ⟨_, rfl⟩
      obtain ⟨z2, ez2⟩ : ∃ z2 : Int, (d : Int) + 1 + 1 = z2 := ⟨_, rfl⟩
      have hw1 : wrap64 (z + 1) = z1 := by rw [← ez, ez1]; unfold wrap64; omega
      have hw2 : wrap64 (z1 + 1) = z2 := by rw [← ez1, ez2]; unfold wrap64; omega
      obtain ⟨y, ey⟩ : ∃ y : Int, (D : Int) = y := ⟨_, rfl⟩
      simp only [ez, ey]
      have EZ : Hid ((d : Int) = z ∧ (d : Int) + 1 = z1 ∧ (d : Int) + 1 + 1 = z2 ∧ (D : Int) = y) := ⟨ez, ez1, ez2, ey⟩
      clear ez ey ez1 ez2 hd1 hd2
      have HK : Hid (h.k = 5 ∨ h.k = 8 ∨ h.k = 9 ∨ h.k = 7 ∨ h.k = 6) := hkind
      clear hkind
      cases B with
      | true =>
        rcases HK.out with k5 | k5 | k5 | k5 | k5
        · rw [k5] at x0
          have HG : Hid (inc (dwn h i) (inc true d) = d + 1 + 1) := by
            have : dwn h i = true := by unfold dwn; rw [if_neg (by rw [k5]; decide), if_neg (by rw [k5]; decide)]
            show _ = _; rw [this]; rfl
          rw [HG.out] at HD
          clear k5
          by_cases hP : y < z2
          · have HP : Hid (y < z2) := hP
            go_wp2_with fail
            exact ⟨⟨i + 1, Nat.max D (d + 1 + 1), hlt, rfl, by first | exact maxd EZ.out.2.2.2 (by have := EZ.out; omega) HP.out | (rw [hw2]; exact maxd EZ.out.2.2.2 (by have := EZ.out; omega) HP.out) | (rw [hw1]; exact maxd EZ.out.2.2.2 (by have := EZ.out; omega) HP.out), HB6.out, by show _ = _; rw [HD.out]; exact (Nat.max_assoc _ _ _).symm⟩, by simp only [intOf]; omega⟩
          · have HP : Hid (¬ y < z2) := hP
            go_wp2_with fail
            exact ⟨⟨i + 1, Nat.max D (d + 1 + 1), hlt, rfl, by first | exact maxe EZ.out.2.2.2 (by have := EZ.out; omega) HP.out | (rw [hw2]; exact maxe EZ.out.2.2.2 (by have := EZ.out; omega) HP.out) | (rw [hw1]; exact maxe EZ.out.2.2.2 (by have := EZ.out; omega) HP.out), HB6.out, by show _ = _; rw [HD.out]; exact (Nat.max_assoc _ _ _).symm⟩, by simp only [intOf]; omega⟩
        · rw [k5] at x0
          have HG : Hid (inc (dwn h i) (inc true d) = d + 1 + 1) := by
            have : dwn h i = true := by unfold dwn; rw [if_neg (by rw [k5]; decide), if_neg (by rw [k5]; decide)]
            show _ = _; rw [this]; rfl
          rw [HG.out] at HD
          clear k5
          by_cases hP : y < z2
          · have HP : Hid (y < z2) := hP
            go_wp2_with fail
            exact ⟨⟨i + 1, Nat.max D (d + 1 + 1), hlt, rfl, by first | exact maxd EZ.out.2.2.2 (by have := EZ.out; omega) HP.out | (rw [hw2]; exact maxd EZ.out.2.2.2 (by have := EZ.out; omega) HP.out) | (rw [hw1]; exact maxd EZ.out.2.2.2 (by have := EZ.out; omega) HP.out), HB6.out, by show _ = _; rw [HD.out]; exact (Nat.max_assoc _ _ _).symm⟩, by simp only [intOf]; omega⟩
          · have HP : Hid (¬ y < z2) := hP
            go_wp2_with fail
            exact ⟨⟨i + 1, Nat.max D (d + 1 + 1), hlt, rfl, by first | exact maxe EZ.out.2.2.2 (by have := EZ.out; omega) HP.out | (rw [hw2]; exact maxe EZ.out.2.2.2 (by have := EZ.out; omega) HP.out) | (rw [hw1]; exact maxe EZ.out.2.2.2 (by have := EZ.out; omega) HP.out), HB6.out, by show _ = _; rw [HD.out]; exact (Nat.max_assoc _ _ _).symm⟩, by simp only [intOf]; omega⟩
        · rw [k5] at x0
          have HG : Hid (inc (dwn h i) (inc true d) = d + 1 + 1) := by
            have : dwn h i = true := by unfold dwn; rw [if_neg (by rw [k5]; decide), if_neg (by rw [k5]; decide)]
            show _ = _; rw [this]; rfl
          rw [HG.out] at HD
          clear k5
          by_cases hP : y < z2
          · have HP : Hid (y < z2) := hP
            go_wp2_with fail
            exact ⟨⟨i + 1, Nat.max D (d + 1 + 1), hlt, rfl, by first | exact maxd EZ.out.2.2.2 (by have := EZ.out; omega) HP.out | (rw [hw2]; exact maxd EZ.out.2.2.2 (by have := EZ.out; omega) HP.out) | (rw [hw1]; exact maxd EZ.out.2.2.2 (by have := EZ.out; omega) HP.out), HB6.out, by show _ = _; rw [HD.out]; exact (Nat.max_assoc _ _ _).symm⟩, by simp only [intOf]; omega⟩
          · have HP : Hid (¬ y < z2) := hP
            go_wp2_with fail
            exact ⟨⟨i + 1, Nat.max D (d + 1 + 1), hlt, rfl, by first | exact maxe EZ.out.2.2.2 (by have := EZ.out; omega) HP.out | (rw [hw2]; exact maxe EZ.out.2.2.2 (by have := EZ.out; omega) HP.out) | (rw [hw1]; exact maxe EZ.out.2.2.2 (by have := EZ.out; omega) HP.out), HB6.out, by show _ = _; rw [HD.out]; exact (Nat.max_assoc _ _ _).symm⟩, by simp only [intOf]; omega⟩
        · rw [k5] at x0
          by_cases i0 : 0 < i
          · have HIP : Hid (0 < i) := i0
            have i1 : (0 : Int) < (i : Int) := by omega
            have HG : Hid (inc (dwn h i) (inc true d) = d + 1 + 1) := by
              have : dwn h i = true := by unfold dwn; rw [if_neg (by rw [k5]; decide), if_pos k5]; have := HIP.out; exact decide_eq_true (by omega)
              show _ = _; rw [this]; rfl
            rw [HG.out] at HD
            clear k5
            by_cases hP : y < z2
            · have HP : Hid (y < z2) := hP
              go_wp2_with fail
              exact ⟨⟨i + 1, Nat.max D (d + 1 + 1), hlt, rfl, by first | exact maxd EZ.out.2.2.2 (by have := EZ.out; omega) HP.out | (rw [hw2]; exact maxd EZ.out.2.2.2 (by have := EZ.out; omega) HP.out) | (rw [hw1]; exact maxd EZ.out.2.2.2 (by have := EZ.out; omega) HP.out), HB6.out, by show _ = _; rw [HD.out]; exact (Nat.max_assoc _ _ _).symm⟩, by simp only [intOf]; omega⟩
            · have HP : Hid (¬ y < z2) := hP
              go_wp2_with fail
              exact ⟨⟨i + 1, Nat.max D (d + 1 + 1), hlt, rfl, by first | exact maxe EZ.out.2.2.2 (by have := EZ.out; omega) HP.out | (rw [hw2]; exact maxe EZ.out.2.2.2 (by have := EZ.out; omega) HP.out) | (rw [hw1]; exact maxe EZ.out.2.2.2 (by have := EZ.out; omega) HP.out), HB6.out, by show _ = _; rw [HD.out]; exact (Nat.max_assoc _ _ _).symm⟩, by simp only [intOf]; omega⟩
          · have HIP : Hid (¬ 0 < i) := i0
            have i1 : ¬ (0 : Int) < (i : Int) := by omega
            have HG : Hid (inc (dwn h i) (inc true d) = d + 1) := by
              have : dwn h i = false := by unfold dwn; rw [if_neg (by rw [k5]; decide), if_pos k5]; have := HIP.out; exact decide_eq_false (by omega)
              show _ = _; rw [this]; rfl
            rw [HG.out] at HD
            clear k5
            by_cases hP : y < z1
            · have HP : Hid (y < z1) := hP
              go_wp2_with fail
              exact ⟨⟨i + 1, Nat.max D (d + 1), hlt, rfl, by first | exact maxd EZ.out.2.2.2 (by have := EZ.out; omega) HP.out | (rw [hw2]; exact maxd EZ.out.2.2.2 (by have := EZ.out; omega) HP.out) | (rw [hw1]; exact maxd EZ.out.2.2.2 (by have := EZ.out; omega) HP.out), HB6.out, by show _ = _; rw [HD.out]; exact (Nat.max_assoc _ _ _).symm⟩, by simp only [intOf]; omega⟩
            · have HP : Hid (¬ y < z1) := hP
              go_wp2_with fail
              exact ⟨⟨i + 1, Nat.max D (d + 1), hlt, rfl, by first | exact maxe EZ.out.2.2.2 (by have := EZ.out; omega) HP.out | (rw [hw2]; exact maxe EZ.out.2.2.2 (by have := EZ.out; omega) HP.out) | (rw [hw1]; exact maxe EZ.out.2.2.2 (by have := EZ.out; omega) HP.out), HB6.out, by show _ = _; rw [HD.out]; exact (Nat.max_assoc _ _ _).symm⟩, by simp only [intOf]; omega⟩
        · rw [k5] at x0
          have HG : Hid (inc (dwn h i) (inc true d) = d + 1) := by
            have : dwn h i = false := by unfold dwn; rw [if_pos k5]
            show _ = _; rw [this]; rfl
          rw [HG.out] at HD
          clear k5
          by_cases hP : y < z1
          · have HP : Hid (y < z1) := hP
            go_wp2_with fail
            exact ⟨⟨i + 1, Nat.max D (d + 1), hlt, rfl, by first | exact maxd EZ.out.2.2.2 (by have := EZ.out; omega) HP.out | (rw [hw2]; exact maxd EZ.out.2.2.2 (by have := EZ.out; omega) HP.out) | (rw [hw1]; exact maxd EZ.out.2.2.2 (by have := EZ.out; omega) HP.out), HB6.out, by show _ = _; rw [HD.out]; exact (Nat.max_assoc _ _ _).symm⟩, by simp only [intOf]; omega⟩
          · have HP : Hid (¬ y < z1) := hP
            go_wp2_with fail
            exact ⟨⟨i + 1, Nat.max D (d + 1), hlt, rfl, by first | exact maxe EZ.out.2.2.2 (by have := EZ.out; omega) HP.out | (rw [hw2]; exact maxe EZ.out.2.2.2 (by have := EZ.out; omega) HP.out) | (rw [hw1]; exact maxe EZ.out.2.2.2 (by have := EZ.out; omega) HP.out), HB6.out, by show _ = _; rw [HD.out]; exact (Nat.max_assoc _ _ _).symm⟩, by simp only [intOf]; omega⟩
      | false =>
        rcases HK.out with k5 | k5 | k5 | k5 | k5
        · rw [k5] at x0
          have HG : Hid (inc (dwn h i) (inc false d) = d + 1) := by
            have : dwn h i = true := by unfold dwn; rw [if_neg (by rw [k5]; decide), if_neg (by rw [k5]; decide)]
            show _ = _; rw [this]; rfl
          rw [HG.out] at HD
          clear k5
          by_cases hP : y < z1
          · have HP : Hid (y < z1) := hP
            go_wp2_with fail
            exact ⟨⟨i + 1, Nat.max D (d + 1), hlt, rfl, by first | exact maxd EZ.out.2.2.2 (by have := EZ.out; omega) HP.out | (rw [hw2]; exact maxd EZ.out.2.2.2 (by have := EZ.out; omega) HP.out) | (rw [hw1]; exact maxd EZ.out.2.2.2 (by have := EZ.out; omega) HP.out), HB6.out, by show _ = _; rw [HD.out]; exact (Nat.max_assoc _ _ _).symm⟩, by simp only [intOf]; omega⟩
          · have HP : Hid (¬ y < z1) := hP
            go_wp2_with fail
            exact ⟨⟨i + 1, Nat.max D (d + 1), hlt, rfl, by first | exact maxe EZ.out.2.2.2 (by have := EZ.out; omega) HP.out | (rw [hw2]; exact maxe EZ.out.2.2.2 (by have := EZ.out; omega) HP.out) | (rw [hw1]; exact maxe EZ.out.2.2.2 (by have := EZ.out; omega) HP.out), HB6.out, by show _ = _; rw [HD.out]; exact (Nat.max_assoc _ _ _).symm⟩, by simp only [intOf]; omega⟩
        · rw [k5] at x0
          have HG : Hid (inc (dwn h i) (inc false d) = d + 1) := by
            have : dwn h i = true := by unfold dwn; rw [if_neg (by rw [k5]; decide), if_neg (by rw [k5]; decide)]
            show _ = _; rw [this]; rfl
          rw [HG.out] at HD
          clear k5
          by_cases hP : y < z1
          · have HP : Hid (y < z1) := hP
            go_wp2_with fail
            exact ⟨⟨i + 1, Nat.max D (d + 1), hlt, rfl, by first | exact maxd EZ.out.2.2.2 (by have := EZ.out; omega) HP.out | (rw [hw2]; exact maxd EZ.out.2.2.2 (by have := EZ.out; omega) HP.out) | (rw [hw1]; exact maxd EZ.out.2.2.2 (by have := EZ.out; omega) HP.out), HB6.out, by show _ = _; rw [HD.out]; exact (Nat.max_assoc _ _ _).symm⟩, by simp only [intOf]; omega⟩
          · have HP : Hid (¬ y < z1) := hP
            go_wp2_with fail
            exact ⟨⟨i + 1, Nat.max D (d + 1), hlt, rfl, by first | exact maxe EZ.out.2.2.2 (by have := EZ.out; omega) HP.out | (rw [hw2]; exact maxe EZ.out.2.2.2 (by have := EZ.out; omega) HP.out) | (rw [hw1]; exact maxe EZ.out.2.2.2 (by have := EZ.out; omega) HP.out), HB6.out, by show _ = _; rw [HD.out]; exact (Nat.max_assoc _ _ _).symm⟩, by simp only [intOf]; omega⟩
        · rw [k5] at x0
          have HG : Hid (inc (dwn h i) (inc false d) = d + 1) := by
            have : dwn h i = true := by unfold dwn; rw [if_neg (by rw [k5]; decide), if_neg (by rw [k5]; decide)]
            show _ = _; rw [this]; rfl
          rw [HG.out] at HD
          clear k5
          by_cases hP : y < z1
          · have HP : Hid (y < z1) := hP
            go_wp2_with fail
            exact ⟨⟨i + 1, Nat.max D (d + 1), hlt, rfl, by first | exact maxd EZ.out.2.2.2 (by have := EZ.out; omega) HP.out | (rw [hw2]; exact maxd EZ.out.2.2.2 (by have := EZ.out; omega) HP.out) | (rw [hw1]; exact maxd EZ.out.2.2.2 (by have := EZ.out; omega) HP.out), HB6.out, by show _ = _; rw [HD.out]; exact (Nat.max_assoc _ _ _).symm⟩, by simp only [intOf]; omega⟩
          · have HP : Hid (¬ y < z1) := hP
            go_wp2_with fail
            exact ⟨⟨i + 1, Nat.max D (d + 1), hlt, rfl, by first | exact maxe EZ.out.2.2.2 (by have := EZ.out; omega) HP.out | (rw [hw2]; exact maxe EZ.out.2.2.2 (by have := EZ.out; omega) HP.out) | (rw [hw1]; exact maxe EZ.out.2.2.2 (by have := EZ.out; omega) HP.out), HB6.out, by show _ = _; rw [HD.out]; exact (Nat.max_assoc _ _ _).symm⟩, by simp only [intOf]; omega⟩
        · rw [k5] at x0
          by_cases i0 : 0 < i
          · have HIP : Hid (0 < i) := i0
            have i1 : (0 : Int) < (i : Int) := by omega
            have HG : Hid (inc (dwn h i) (inc false d) = d + 1) := by
              have : dwn h i = true := by unfold dwn; rw [if_neg (by rw [k5]; decide), if_pos k5]; have := HIP.out; exact decide_eq_true (by omega)
              show _ = _; rw [this]; rfl
            rw [HG.out] at HD
            clear k5
            by_cases hP : y < z1
            · have HP : Hid (y < z1) := hP
              go_wp2_with fail
              exact ⟨⟨i + 1, Nat.max D (d + 1), hlt, rfl, by first | exact maxd EZ.out.2.2.2 (by have := EZ.out; omega) HP.out | (rw [hw2]; exact maxd EZ.out.2.2.2 (by have := EZ.out; omega) HP.out) | (rw [hw1]; exact maxd EZ.out.2.2.2 (by have := EZ.out; omega) HP.out), HB6.out, by show _ = _; rw [HD.out]; exact (Nat.max_assoc _ _ _).symm⟩, by simp only [intOf]; omega⟩
            · have HP : Hid (¬ y < z1) := hP
              go_wp2_with fail
              exact ⟨⟨i + 1, Nat.max D (d + 1), hlt, rfl, by first | exact maxe EZ.out.2.2.2 (by have := EZ.out; omega) HP.out | (rw [hw2]; exact maxe EZ.out.2.2.2 (by have := EZ.out; omega) HP.out) | (rw [hw1]; exact maxe EZ.out.2.2.2 (by have := EZ.out; omega) HP.out), HB6.out, by show _ = _; rw [HD.out]; exact (Nat.max_assoc _ _ _).symm⟩, by simp only [intOf]; omega⟩
          · have HIP : Hid (¬ 0 < i) := i0
            have i1 : ¬ (0 : Int) < (i : Int) := by omega
            have HG : Hid (inc (dwn h i) (inc false d) = d) := by
              have : dwn h i = false := by unfold dwn; rw [if_neg (by rw [k5]; decide), if_pos k5]; have := HIP.out; exact decide_eq_false (by omega)
              show _ = _; rw [this]; rfl
            rw [HG.out] at HD
            clear k5
            by_cases hP : y < z
            · have HP : Hid (y < z) := hP
              go_wp2_with fail
              exact ⟨⟨i + 1, Nat.max D (d), hlt, rfl, by first | exact maxd EZ.out.2.2.2 (by have := EZ.out; omega) HP.out | (rw [hw2]; exact maxd EZ.out.2.2.2 (by have := EZ.out; omega) HP.out) | (rw [hw1]; exact maxd EZ.out.2.2.2 (by have := EZ.out; omega) HP.out), HB6.out, by show _ = _; rw [HD.out]; exact (Nat.max_assoc _ _ _).symm⟩, by simp only [intOf]; omega⟩
            · have HP : Hid (¬ y < z) := hP
              go_wp2_with fail
              exact ⟨⟨i + 1, Nat.max D (d), hlt, rfl, by first | exact maxe EZ.out.2.2.2 (by have := EZ.out; omega) HP.out | (rw [hw2]; exact maxe EZ.out.2.2.2 (by have := EZ.out; omega) HP.out) | (rw [hw1]; exact maxe EZ.out.2.2.2 (by have := EZ.out; omega) HP.out), HB6.out, by show _ = _; rw [HD.out]; exact (Nat.max_assoc _ _ _).symm⟩, by simp only [intOf]; omega⟩
        · rw [k5] at x0
          have HG : Hid (inc (dwn h i) (inc false d) = d) := by
            have : dwn h i = false := by unfold dwn; rw [if_pos k5]
            show _ = _; rw [this]; rfl
          rw [HG.out] at HD
          clear k5
          by_cases hP : y < z
          · have HP : Hid (y < z) := hP
            go_wp2_with fail
            exact ⟨⟨i + 1, Nat.max D (d), hlt, rfl, by first | exact maxd EZ.out.2.2.2 (by have := EZ.out; omega) HP.out | (rw [hw2]; exact maxd EZ.out.2.2.2 (by have := EZ.out; omega) HP.out) | (rw [hw1]; exact maxd EZ.out.2.2.2 (by have := EZ.out; omega) HP.out), HB6.out, by show _ = _; rw [HD.out]; exact (Nat.max_assoc _ _ _).symm⟩, by simp only [intOf]; omega⟩
          · have HP : Hid (¬ y < z) := hP
            go_wp2_with fail
            exact ⟨⟨i + 1, Nat.max D (d), hlt, rfl, by first | exact maxe EZ.out.2.2.2 (by have := EZ.out; omega) HP.out | (rw [hw2]; exact maxe EZ.out.2.2.2 (by have := EZ.out; omega) HP.out) | (rw [hw1]; exact maxe EZ.out.2.2.2 (by have := EZ.out; omega) HP.out), HB6.out, by show _ = _; rw [HD.out]; exact (Nat.max_assoc _ _ _).symm⟩, by simp only [intOf]; omega⟩
    · obtain rfl : i = ks.length := by omega
      have hnot : ¬ (ks.length : Int) < (ks.length : Int) := by omega
      have HE : Hid (dep (.mk h a c ks) = D) := by show deps h 0 ks = _; rw [HR.out, List.drop_length]; show Nat.max D 0 = D; simp
      have x6 : wr.cell? ⟨w.heap.size, 6, none⟩ = some (.slice a ks.length c) := HNR.out.eight.2.2.2.2.2.2.1
      clear HR
      go_wp2_with fail
      go_ret
      exact ⟨by rw [HE.out]; rfl, HBR.out⟩
end Go.Proofs.YtighocmdlifheaaGreatDoor

/-
  found: what is wrong, by a look that gives up; hasForm, CheckExpr, Level, Depth.
-/
namespace Go.Proofs.YtighocmdlifheaaGreatDoor
open Go.RowKit
theorem assert_hit (v : Value) (w : World) : (Instr.typeAssert (.iface 30 v) 20 30 true).run Tryz.prog w = .ok (.tuple #[v, .bool true]) w := by
  simp [Instr.typeAssert, run_underlying Tryz.underlying30, go_sem, Result.andThen]
theorem assert_nil (w : World) : (Instr.typeAssert .nilIface 20 30 true).run Tryz.prog w = .ok (.tuple #[.int .i64 0, .bool false]) w := by
  simp [Instr.typeAssert, run_underlying Tryz.underlying30, go_sem, Result.andThen]
set_option maxRecDepth 100000 in
theorem catch_p (p : Addr) (y no : Int) (older : List PanicEntry) (w : World) (hc : w.cell? p = some (.int .i64 y)) (hz : w.frozen? p = false) :
    CallsD Tryz.prog 87 #[.pointer (some p)] (.panicking ({ v := .iface 30 (.int .i64 no), recovered := false } :: older)) w fun e u' w' =>
      e = .returned (.tuple #[]) ∧ u' = .panicking ({ v := .iface 30 (.int .i64 no), recovered := true } :: older) ∧ w' = w.setCell p (.int .i64 no) := by
  refine callsD_of_wpS Tryz.func87 rfl fun c₀ cs hu => ?_
  apply wpS_region
  simp [wpOpsS, go_sem, recoverD, hu, Tryz.ntmps87, hc, hz, assert_hit, Result.andThen, bodyPostS, results, Tryz.results87]
set_option maxRecDepth 100000 in
theorem catch_i (p : Addr) (y : Int) (w : World) (hc : w.cell? p = some (.int .i64 y)) (hz : w.frozen? p = false) :
    CallsD Tryz.prog 87 #[.pointer (some p)] .returning w fun e u' w' => e = .returned (.tuple #[]) ∧ u' = .returning ∧ w' = w.setCell p (.int .i64 0) := by
  refine callsD_of_wpS Tryz.func87 rfl fun c₀ cs hu => ?_
  apply wpS_region
  simp [wpOpsS, go_sem, recoverD, hu, Tryz.ntmps87, hc, hz, assert_nil, Result.andThen]
  cases c₀
  simp_all [bodyPostS, results, Tryz.results87]
set_option maxRecDepth 100000 in
/-- What a look finds: F the look's closure, with what it holds. -/
theorem found_any (F : Nat) (hE : ∀ args v, Sem.run Tryz.prog (callFunc F args) v = .ok (.enter F args) v) (cap : Array Value) (E : Int) (w : World)
    (cF : ∀ v, Below w.heap.size w v → Calls Tryz.prog F cap v fun e w' => ((E = 0 ∧ e = .returned (.tuple #[])) ∨ (¬ E = 0 ∧ e = .panicked [{ v := .iface 30 (.int .i64 E), recovered := false }])) ∧ Below v.heap.size v w') :
    Calls Tryz.prog 40 #[.func (.func F) #[] cap] w fun e w' => e = .returned (.int .i64 E) ∧ Below w.heap.size w w' := by
  have hmf : ∀ (fn : Fn) (first cap : Array Value) (w : World), (Instr.makeFunc fn first cap).run Tryz.prog w = .ok (.func fn first cap) w := fun _ _ _ _ => rfl
  by_cases h : E = 0
  · subst h
    have cG : ∀ v, Below w.heap.size w v → Calls Tryz.prog F cap v fun e w' => e = .returned (.tuple #[]) ∧ Below v.heap.size v w' := fun v hv => (cF v hv).mono (by
      rintro e w' ⟨h1 | h1, h2⟩
      · exact ⟨h1.2, h2⟩
      · exact absurd rfl h1.1)
    clear cF
    go_enter_defers Tryz.func40, Tryz.ntmps40
    go_wp2_with fail
    refine (cG _ (below_new _ _)).mono ?_
    rintro e w1 ⟨rfl, hb1⟩
    have hbk := (hb1.block w.heap.size (by simp)).trans (heap_new w _)
    have c0 : w1.cell? ⟨w.heap.size, 0, none⟩ = some (.int .i64 0) := cell_of hbk 0
    have f0 : w1.frozen? ⟨w.heap.size, 0, none⟩ = false := frozen_of hbk 0
    have HB1 : Hid (Below w.heap.size w w1) := (below_new _ _).trans (hb1.mono (by simp))
    have HK : Hid (w1.heap[w.heap.size]? = some (.cells #[.int .i64 0] 30 (0, 0))) := hbk
    clear hbk hb1
    go_wp2_with fail
    refine leaves_cons (f := 87) (args := #[.pointer (some ⟨w.heap.size, 0, none⟩)]) (by simp) (by simp [go_sem]) ?_
    refine (catch_i ⟨w.heap.size, 0, none⟩ 0 _ (cell_of (heap_set _ HK.out) 0) (frozen_of (heap_set _ HK.out) 0)).mono ?_
    rintro e u' w'' ⟨rfl, rfl, rfl⟩
    have h9 := heap_set (j := 0) (.int .i64 0) (heap_set (j := 0) (.int .i64 0) HK.out)
    have c9 : ((w1.setCell ⟨w.heap.size, 0, none⟩ (.int .i64 0)).setCell ⟨w.heap.size, 0, none⟩ (.int .i64 0)).cell? ⟨w.heap.size, 0, none⟩ = some (.int .i64 0) := cell_of h9 0
    have b9 : Below w.heap.size w ((w1.setCell ⟨w.heap.size, 0, none⟩ (.int .i64 0)).setCell ⟨w.heap.size, 0, none⟩ (.int .i64 0)) := (HB1.out.setCell (p := ⟨w.heap.size, 0, none⟩) (Nat.le_refl _) _).setCell (p := ⟨w.heap.size, 0, none⟩) (Nat.le_refl _) _
    simp [Leaves, settle, results, Tryz.results40, go_sem, c9, b9]
  · have cG : ∀ v, Below w.heap.size w v → Calls Tryz.prog F cap v fun e w' => e = .panicked [{ v := .iface 30 (.int .i64 E), recovered := false }] ∧ Below v.heap.size v w' := fun v hv => (cF v hv).mono (by
      rintro e w' ⟨h1 | h1, h2⟩
      · exact absurd h1.1 h
      · exact ⟨h1.2, h2⟩)
    clear cF
    go_enter_defers Tryz.func40, Tryz.ntmps40
    go_wp2_with fail
    refine (cG _ (below_new _ _)).mono ?_
    rintro e w1 ⟨rfl, hb1⟩
    have hbk := (hb1.block w.heap.size (by simp)).trans (heap_new w _)
    have c0 : w1.cell? ⟨w.heap.size, 0, none⟩ = some (.int .i64 0) := cell_of hbk 0
    have f0 : w1.frozen? ⟨w.heap.size, 0, none⟩ = false := frozen_of hbk 0
    have HB1 : Hid (Below w.heap.size w w1) := (below_new _ _).trans (hb1.mono (by simp))
    have HK : Hid (w1.heap[w.heap.size]? = some (.cells #[.int .i64 0] 30 (0, 0))) := hbk
    clear hbk hb1
    go_wp2_with fail
    refine leaves_cons (f := 87) (args := #[.pointer (some ⟨w.heap.size, 0, none⟩)]) (by simp) (by simp [go_sem]) ?_
    refine (catch_p ⟨w.heap.size, 0, none⟩ 0 E [] _ c0 f0).mono ?_
    rintro e u' w'' ⟨rfl, rfl, rfl⟩
    have h9 := heap_set (j := 0) (.int .i64 E) HK.out
    have c9 : (w1.setCell ⟨w.heap.size, 0, none⟩ (.int .i64 E)).cell? ⟨w.heap.size, 0, none⟩ = some (.int .i64 E) := cell_of h9 0
    have b9 : Below w.heap.size w (w1.setCell ⟨w.heap.size, 0, none⟩ (.int .i64 E)) := HB1.out.setCell (p := ⟨w.heap.size, 0, none⟩) (Nat.le_refl _) _
    simp [Leaves, settle, results, Tryz.results40, go_sem, c9, b9]
theorem enter57 (args : Array Value) (v : World) : Sem.run Tryz.prog (callFunc 107 args) v = .ok (.enter 107 args) v := by kernel_rfl
theorem enter51 (args : Array Value) (v : World) : Sem.run Tryz.prog (callFunc 74 args) v = .ok (.enter 74 args) v := by kernel_rfl
/-- A look that gives up with E, or doesn't. -/
def Gives (F : Nat) (args : Array Value) (w : World) (E : Int) : Prop := Calls Tryz.prog F args w fun e w' => ((E = 0 ∧ e = .returned (.tuple #[])) ∨ (¬ E = 0 ∧ e = .panicked [{ v := .iface 30 (.int .i64 E), recovered := false }])) ∧ Below w.heap.size w w'
def fE (m : Nd) : Int := if formB m = true then 0 else 120
theorem form_gives {m : Nd} {w : World} (hl : Lies w m) (ht : Tab w) : Gives 105 #[.agg m.vals] w (fE m) := by
  refine (form_any m w hl ht).mono ?_
  rintro e w' ⟨rfl, hb⟩
  unfold fE endE
  cases formB m with
  | true => exact ⟨.inl ⟨rfl, rfl⟩, hb⟩
  | false => exact ⟨.inr ⟨by decide, rfl⟩, hb⟩
set_option maxRecDepth 100000 in
theorem look57 (m : Nd) (b : Nat) (w : World) (hn : NdH w b m) (hl : Lies w m) (ht : Tab w) : Gives 107 #[.pointer (some ⟨b, 0, none⟩)] w (fE m) := by
  obtain ⟨y0, y1, y2, y3, y4, y5, y6, y7⟩ := hn.eight
  have c := form_gives hl ht
  unfold Gives at c ⊢
  obtain ⟨E, eE⟩ : ∃ E, fE m = E := ⟨_, rfl⟩
  rw [eE] at c ⊢
  unfold Nd.vals hdA at c
  clear eE hl ht hn
  by_cases h : E = 0
  · have c2 := c.mono (R' := fun e w' => e = .returned (.tuple #[]) ∧ Below w.heap.size w w') (by
      rintro e w' ⟨h1 | h1, h2⟩
      · exact ⟨h1.2, h2⟩
      · exact absurd h h1.1)
    have HE : Hid (E = 0) := h
    clear c h
    go_enter Tryz.func107, Tryz.ntmps107
    go_wp2_with fail
    refine c2.mono ?_
    rintro e w1 ⟨rfl, hb⟩
    go_wp2_with fail
    go_end0
    exact ⟨.inl ⟨HE.out, rfl⟩, hb⟩
  · have c2 := c.mono (R' := fun e w' => e = .panicked [{ v := .iface 30 (.int .i64 E), recovered := false }] ∧ Below w.heap.size w w') (by
      rintro e w' ⟨h1 | h1, h2⟩
      · exact absurd h1.1 h
      · exact ⟨h1.2, h2⟩)
    have HE : Hid (¬ E = 0) := h
    clear c h
    go_enter Tryz.func107, Tryz.ntmps107
    go_wp2_with fail
    refine c2.mono ?_
    rintro e w1 ⟨rfl, hb⟩
    exact ⟨rfl, .inr ⟨HE.out, rfl⟩, hb⟩
end Go.Proofs.YtighocmdlifheaaGreatDoor
