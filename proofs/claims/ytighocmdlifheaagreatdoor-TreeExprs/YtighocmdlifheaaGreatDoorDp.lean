/-
  depth: how deep an expression goes.
-/
import Derived.Test.YtighocmdlifheaaGreatDoorFm2
import Derived.Test.YtighocmdlifheaaGreatDoorM2
namespace Go.Proofs.YtighocmdlifheaaGreatDoor
open Go.RowKit
theorem dep_size : ∀ m, dep m ≤ 2 * size m := by
  refine Nd.ind fun h a c ks ih => ?_
  have : ∀ (l : List Nd) (i : Nat), (∀ k ∈ l, dep k ≤ 2 * size k) → deps h i l ≤ 2 * sizes l + 2 := by
    intro l
    induction l with
    | nil => intro i _; simp [deps]
    | cons k l ihl =>
      intro i hl
      have h1 := hl k (by simp)
      have h2 := ihl (i + 1) fun x hx => hl x (by simp [hx])
      have h3 : ∀ (b : Bool) d, inc b d ≤ d + 1 := fun b d => by unfold inc; split <;> omega
      have h4 := h3 (dwn h i) (inc (decide (lvl k.h < ask h i)) (dep k))
      have h5 := h3 (decide (lvl k.h < ask h i)) (dep k)
      have h6 : 1 ≤ size k := by cases k; simp [size]
      simp only [deps, sizes]
      have := Nat.max_le.2 (⟨by omega, by omega⟩ : inc (dwn h i) (inc (decide (lvl k.h < ask h i)) (dep k)) ≤ 2 * (size k + sizes l) + 2 ∧ deps h (i + 1) l ≤ 2 * (size k + sizes l) + 2)
      exact this
  simp only [dep, size]
  have := this ks 0 ih
  omega
/-- What a region keeps that looks at a node and a kid. -/
structure KK (X : World) (B Y : Nat) (m k : Nd) : Prop where
  m : NdH X B m
  k : NdH X Y k
theorem NdH.eight {w : World} {b : Nat} {m : Nd} (h : NdH w b m) : w.cell? ⟨b, 0, none⟩ = some (.int .u8 m.h.k) ∧ w.cell? ⟨b, 1, none⟩ = some (.int .u8 m.h.o) ∧ w.cell? ⟨b, 2, none⟩ = some (.int .u8 m.h.t) ∧ w.cell? ⟨b, 3, none⟩ = some (.int .i64 m.h.n) ∧ w.cell? ⟨b, 4, none⟩ = some (.int .u8 m.h.f) ∧ w.cell? ⟨b, 5, none⟩ = some (.string m.h.x) ∧ w.cell? ⟨b, 6, none⟩ = some (.slice m.a m.ks.length m.c) ∧ w.cell? ⟨b, 7, none⟩ = some (.int .i64 m.h.p) :=
  ⟨cell_of h 0, cell_of h 1, cell_of h 2, cell_of h 3, cell_of h 4, cell_of h 5, cell_of h 6, cell_of h 7⟩
theorem size_mem : ∀ {ks : List Nd} {k : Nd}, k ∈ ks → size k ≤ sizes ks
  | [], _, h => by cases h
  | j :: js, k, h => by
    rcases List.mem_cons.1 h with e | e
    · rw [e]; simp only [sizes]; omega
    · have := size_mem e; simp only [sizes]; omega
theorem len_sizes : ∀ (ks : List Nd), ks.length ≤ sizes ks
  | [] => Nat.le_refl _
  | j :: js => by
    have h1 := len_sizes js
    have h2 : 1 ≤ size j := by cases j; simp [size]
    simp only [sizes, List.length_cons]; omega
theorem KK.hid {X : World} {B Y : Nat} {m k : Nd} (h : KK X B Y m k) : Hid (KK X B Y m k) := h
theorem KK.keep {X v : World} {B Y : Nat} {m k : Nd} (h : KK X B Y m k) (g : GB X v) :
    v.cell? ⟨B, 0, none⟩ = some (.int .u8 m.h.k) ∧ v.cell? ⟨B, 1, none⟩ = some (.int .u8 m.h.o) ∧ v.cell? ⟨B, 2, none⟩ = some (.int .u8 m.h.t) ∧ v.cell? ⟨B, 3, none⟩ = some (.int .i64 m.h.n) ∧ v.cell? ⟨B, 4, none⟩ = some (.int .u8 m.h.f) ∧ v.cell? ⟨B, 5, none⟩ = some (.string m.h.x) ∧ v.cell? ⟨B, 6, none⟩ = some (.slice m.a m.ks.length m.c) ∧ v.cell? ⟨B, 7, none⟩ = some (.int .i64 m.h.p) ∧
    v.cell? ⟨Y, 0, none⟩ = some (.int .u8 k.h.k) ∧ v.cell? ⟨Y, 1, none⟩ = some (.int .u8 k.h.o) ∧ v.cell? ⟨Y, 2, none⟩ = some (.int .u8 k.h.t) ∧ v.cell? ⟨Y, 3, none⟩ = some (.int .i64 k.h.n) ∧ v.cell? ⟨Y, 4, none⟩ = some (.int .u8 k.h.f) ∧ v.cell? ⟨Y, 5, none⟩ = some (.string k.h.x) ∧ v.cell? ⟨Y, 6, none⟩ = some (.slice k.a k.ks.length k.c) ∧ v.cell? ⟨Y, 7, none⟩ = some (.int .i64 k.h.p) ∧ GB X v := by
  obtain ⟨a0, a1, a2, a3, a4, a5, a6, a7⟩ := (h.m.on g).eight
  obtain ⟨b0, b1, b2, b3, b4, b5, b6, b7⟩ := (h.k.on g).eight
  exact ⟨a0, a1, a2, a3, a4, a5, a6, a7, b0, b1, b2, b3, b4, b5, b6, b7, g⟩
theorem maxv {D n : Nat} {y z : Int} (hy : (D : Int) = y) (hz : (n : Int) = z) : Value.int .i64 (if y < z then z else y) = .int .i64 ((Nat.max D n : Nat) : Int) := by
  congr 1
  rw [← hy, ← hz]
  have h1 : Nat.max D n = if D < n then n else D := by
    show max D n = _
    split <;> omega
  rw [h1]
  by_cases h : D < n
  · rw [if_pos h, if_pos (by omega)]
  · rw [if_neg h, if_neg (by omega)]
theorem run_max (x y : Int) : Builtin.max_ #[3, 3] 3 #[.int .i64 x, .int .i64 y] = pure (.int .i64 (if y > x then y else x)) := by
  show (Builtin.max2 (.int .i64 x) (.int .i64 y) >>= fun v => pure v) = _
  show (pure (Value.int .i64 (if y > x then y else x)) >>= fun v => (pure v : Sem Value)) = _
  rfl
set_option maxRecDepth 100000 in
set_option maxHeartbeats 4000000 in
theorem depth_any : ∀ (m : Nd) (w : World), Lies w m → size m ≤ 1000000000000 → Calls Tryz.prog 78 #[.agg m.vals] w fun e w' => e = .returned (.int .i64 (dep m)) ∧ Below w.heap.size w w' := by
  refine Nd.ind fun h a c ks ih w hl hz => ?_
  have HI : Hid (∀ k ∈ ks, ∀ (w : World), Lies w k → size k ≤ 1000000000000 → Calls Tryz.prog 78 #[.agg k.vals] w fun e w' => e = .returned (.int .i64 (dep k)) ∧ Below w.heap.size w w') := ih
  have HL := hl.hid
  have HZ : Hid (size (.mk h a c ks) ≤ 1000000000000) := hz
  have cA : ∀ (i : Nat), i ≤ 9223372036854775000 → ∀ v, Calls Tryz.prog 109 #[.agg #[.int .u8 h.k, .int .u8 h.o, .int .u8 h.t, .int .i64 h.n, .int .u8 h.f, .string h.x, .slice a ks.length c, .int .i64 h.p], .int .i64 i] v fun e w' => e = .returned (.int .i64 (ask h i)) ∧ Below v.heap.size v w' := fun i hi v => asked_any h a ks.length c i hi v
  have cG : ∀ (i : Nat) v, Calls Tryz.prog 110 #[.agg #[.int .u8 h.k, .int .u8 h.o, .int .u8 h.t, .int .i64 h.n, .int .u8 h.f, .string h.x, .slice a ks.length c, .int .i64 h.p], .int .i64 i] v fun e w' => e = .returned (.bool (dwn h i)) ∧ Below v.heap.size v w' := fun i v => goesDown_any h a ks.length c i v
  clear ih hl hz
  show Calls Tryz.prog 78 #[.agg #[.int .u8 h.k, .int .u8 h.o, .int .u8 h.t, .int .i64 h.n, .int .u8 h.f, .string h.x, .slice a ks.length c, .int .i64 h.p]] w _
  have HN0 : Hid (NdH (w.alloc (.cells #[.int .u8 h.k, .int .u8 h.o, .int .u8 h.t, .int .i64 h.n, .int .u8 h.f, .string h.x, .slice a ks.length c, .int .i64 h.p] 55)) w.heap.size (.mk h a c ks)) := heap_new w _
  go_enter Tryz.func78, Tryz.ntmps78
  go_wp2_with fail
  go_loopw [3, 4, 5, 6, 10] (fun d t4 t5 t6 t wr => ∃ (i D : Nat), i ≤ ks.length ∧ t = .int .i64 i ∧ d = .int .i64 D ∧ Below (w.alloc (.cells #[.int .u8 h.k, .int .u8 h.o, .int .u8 h.t, .int .i64 h.n, .int .u8 h.f, .string h.x, .slice a ks.length c, .int .i64 h.p] 55)).heap.size (w.alloc (.cells #[.int .u8 h.k, .int .u8 h.o, .int .u8 h.t, .int .i64 h.n, .int .u8 h.f, .string h.x, .slice a ks.length c, .int .i64 h.p] 55)) wr ∧ Hid (deps h 0 ks = Nat.max D (deps h i (ks.drop i)))) (fun _ _ _ _ t _ => ks.length - (intOf t).toNat)
  case atStart => exact ⟨0, 0, by omega, rfl, rfl, Below.refl _ _, by show _ = _; simp⟩
  case round =>
    obtain ⟨i, D, hi, rfl, rfl, hbr, HR⟩ := hrel
    have HBR : Hid (Below w.heap.size w wr) := below2 (below_new _ _) hbr
    have HNR : Hid (NdH wr w.heap.size (.mk h a c ks)) := HN0.out.on hbr
    have HBr : Hid (Below (w.alloc (.cells #[.int .u8 h.k, .int .u8 h.o, .int .u8 h.t, .int .i64 h.n, .int .u8 h.f, .string h.x, .slice a ks.length c, .int .i64 h.p] 55)).heap.size (w.alloc (.cells #[.int .u8 h.k, .int .u8 h.o, .int .u8 h.t, .int .i64 h.n, .int .u8 h.f, .string h.x, .slice a ks.length c, .int .i64 h.p] 55)) wr) := hbr
    clear hbr
    by_cases hlt : i < ks.length
    · have hlt' : (i : Int) < (ks.length : Int) := by omega
      have hmx : (i : Int) + 1 ≤ 9223372036854775807 := by
        have h1 := HL.out.max
        have h2 := HL.out.cap
        simp only [Nd.ks, Nd.c] at h1 h2
        omega
      obtain ⟨b, o, e, hat⟩ := (HL.out.on HBR.out).kid i hlt
      have e2 : a = some ⟨b, o, none⟩ := e
      clear e
      subst e2
      have cI := HI.out ks[i] (nth_mem hlt)
      have HLk : Hid (Lies w ks[i]) := HL.out.sub ks[i] (nth_mem hlt)
      have hsz : size ks[i] ≤ 1000000000000 := by have h1 := size_mem (nth_mem hlt); have h2 := HZ.out; simp only [size] at h2; omega
      have hdk := dep_size ks[i]
      have HD : Hid (deps h 0 ks = Nat.max D (Nat.max (inc (dwn h i) (inc (decide (lvl ks[i].h < ask h i)) (dep ks[i]))) (deps h (i + 1) (ks.drop (i + 1))))) := by show _ = _; rw [HR.out, drop_nth hlt]; rfl
      obtain ⟨k, ek⟩ : ∃ k, ks[i] = k := ⟨_, rfl⟩
      have hat2 : NdAt wr b (o + i * 8) k := by rw [← ek]; exact hat
      clear hat
      rw [ek] at cI HLk hsz HD hdk
      obtain ⟨y0, y1, y2, y3, y4, y5, y6, y7⟩ := hat2
      obtain ⟨d, ed⟩ : ∃ d, dep k = d := ⟨_, rfl⟩
      obtain ⟨V, eV⟩ : ∃ V, lvl k.h = V := ⟨_, rfl⟩
      obtain ⟨U, eU⟩ : ∃ U, ask h i = U := ⟨_, rfl⟩
      obtain ⟨G, eG⟩ : ∃ G, dwn h i = G := ⟨_, rfl⟩
      have cL : ∀ v, Calls Tryz.prog 77 #[.agg #[.int .u8 k.h.k, .int .u8 k.h.o, .int .u8 k.h.t, .int .i64 k.h.n, .int .u8 k.h.f, .string k.h.x, .slice k.a k.ks.length k.c, .int .i64 k.h.p]] v fun e w' => e = .returned (.int .i64 V) ∧ Below v.heap.size v w' := fun v => by rw [← eV]; exact level_any k.h k.a k.ks.length k.c v
      have hle : i ≤ 1000000000000 := by have h1 := len_sizes ks; have h2 := HZ.out; simp only [size] at h2; omega
      have cA := cA i (by omega)
      have cG := cG i
      have hd0 : (d : Int) + 2 ≤ 9223372036854775807 := by omega
      rw [ed] at cI HD
      rw [eV, eU, eG] at HD
      rw [eU] at cA
      simp only [eG] at cG
      have cI : ∀ v, Lies v k → Calls Tryz.prog 78 #[.agg #[.int .u8 k.h.k, .int .u8 k.h.o, .int .u8 k.h.t, .int .i64 k.h.n, .int .u8 k.h.f, .string k.h.x, .slice k.a k.ks.length k.c, .int .i64 k.h.p]] v fun e w' => e = .returned (.int .i64 d) ∧ Below v.heap.size v w' := fun v hv => cI v hv hsz
      have hd1 : (d : Int) + 1 ≤ 9223372036854775807 := by omega
      have hd2 : (d : Int) + 1 + 1 ≤ 9223372036854775807 := by omega
      clear ek eV eU eG ed HR hdk hsz hle hd0
      go_wp2_with (go_at_call 78; refine (cI _ (HLk.out.on (below2 HBR.out (below_new _ _)))).mono ?_; rintro e w5 ⟨rfl, hb5⟩)
      have HB5 : Hid (Below w.heap.size w w5) := below2 (below2 HBR.out (below_new _ _)) hb5
      have HKX : Hid (KK w5 w.heap.size wr.heap.size (.mk h (some ⟨b, o, none⟩) c ks) k) := ⟨HNR.out.on (below2 (below_new _ _) hb5), NdH.on (heap_new wr _) hb5⟩
      have HB6 : Hid (Below wr.heap.size wr w5) := below2 (below_new _ _) hb5
      obtain ⟨X, eX⟩ : ∃ X, w5 = X := ⟨_, rfl⟩
      obtain ⟨Y, eY⟩ : ∃ Y, wr.heap.size = Y := ⟨_, rfl⟩
      rw [eY] at HKX ⊢
      subst eX
      clear hb5 cI eY y0 y1 y2 y3 y4 y5 y6 y7
      go_region_held3 (fun v => v.cell? ⟨w.heap.size, 0, none⟩ = some (.int .u8 h.k) ∧ v.cell? ⟨w.heap.size, 1, none⟩ = some (.int .u8 h.o) ∧ v.cell? ⟨w.heap.size, 2, none⟩ = some (.int .u8 h.t) ∧ v.cell? ⟨w.heap.size, 3, none⟩ = some (.int .i64 h.n) ∧ v.cell? ⟨w.heap.size, 4, none⟩ = some (.int .u8 h.f) ∧ v.cell? ⟨w.heap.size, 5, none⟩ = some (.string h.x) ∧ v.cell? ⟨w.heap.size, 6, none⟩ = some (.slice (some ⟨b, o, none⟩) ks.length c) ∧ v.cell? ⟨w.heap.size, 7, none⟩ = some (.int .i64 h.p) ∧ v.cell? ⟨Y, 0, none⟩ = some (.int .u8 k.h.k) ∧ v.cell? ⟨Y, 1, none⟩ = some (.int .u8 k.h.o) ∧ v.cell? ⟨Y, 2, none⟩ = some (.int .u8 k.h.t) ∧ v.cell? ⟨Y, 3, none⟩ = some (.int .i64 k.h.n) ∧ v.cell? ⟨Y, 4, none⟩ = some (.int .u8 k.h.f) ∧ v.cell? ⟨Y, 5, none⟩ = some (.string k.h.x) ∧ v.cell? ⟨Y, 6, none⟩ = some (.slice k.a k.ks.length k.c) ∧ v.cell? ⟨Y, 7, none⟩ = some (.int .i64 k.h.p) ∧ GB w5 v)
        (exact HKX.out.keep (by (repeat (first | with_reducible assumption | with_reducible exact GB.refl _ | with_reducible apply GB.drew | with_reducible apply GB.alloc | with_reducible refine GB.call (by with_reducible assumption) ?_))))
        (first
          | (go_at_call 77; refine (cL _).mono ?_; rintro e w6 ⟨rfl, hb6⟩)
          | (go_at_call 109; refine (cA _).mono ?_; rintro e w7 ⟨rfl, hb7⟩))
      all_goals
        refine abs_world (P := fun V => GB w5 V) (by (repeat (first | with_reducible assumption | with_reducible exact GB.refl _ | with_reducible apply GB.drew | with_reducible apply GB.alloc | with_reducible refine GB.call (by with_reducible assumption) ?_))) ?_
        intro Vw hv
        obtain ⟨q0, q1, q2, q3, q4, q5, q6, q7, p0, p1, p2, p3, p4, p5, p6, p7, _⟩ := HKX.out.keep hv
        simp only [Nd.h, Nd.a, Nd.c, Nd.ks] at q0 q1 q2 q3 q4 q5 q6 q7
        have HV : Hid (Below w5.heap.size w5 Vw) := hv
        clear hv p0 p1 p2 p3 p4 p5 p6 p7
        obtain ⟨z, ez⟩ : ∃ z : Int, (d : Int) = z := ⟨_, rfl⟩
        obtain ⟨z1, ez1⟩ : ∃ z1 : Int, (d : Int) + 1 = z1 := ⟨_, rfl⟩
        obtain ⟨z2, ez2⟩ : ∃ z2 : Int, (d : Int) + 1 + 1 = z2 := ⟨_, rfl⟩
        have hw1 : wrap64 (z + 1) = z1 := by rw [← ez, ez1]; unfold wrap64; omega
        have hw2 : wrap64 (z1 + 1) = z2 := by rw [← ez1, ez2]; unfold wrap64; omega
        obtain ⟨y, ey⟩ : ∃ y : Int, (D : Int) = y := ⟨_, rfl⟩
        simp only [ez, ey]
        have EZ : Hid ((d : Int) = z ∧ (d : Int) + 1 = z1 ∧ (d : Int) + 1 + 1 = z2 ∧ (D : Int) = y) := ⟨ez, ez1, ez2, ey⟩
        clear ez ey ez1 ez2 hd1 hd2 hmx
        by_cases hP : V < U
        · cases G with
          | true =>
            have K9 : Hid (inc true (inc (decide (V < U)) d) = d + 1 + 1) := by show _ = _; rw [decide_eq_true hP]; rfl
            go_wp2_with fail
            refine (cG _).mono ?_
            rintro e w8 ⟨rfl, hb8⟩
            have HB8 : Hid (Below (w.alloc (.cells #[.int .u8 h.k, .int .u8 h.o, .int .u8 h.t, .int .i64 h.n, .int .u8 h.f, .string h.x, .slice (some ⟨b, o, none⟩) ks.length c, .int .i64 h.p] 55)).heap.size (w.alloc (.cells #[.int .u8 h.k, .int .u8 h.o, .int .u8 h.t, .int .i64 h.n, .int .u8 h.f, .string h.x, .slice (some ⟨b, o, none⟩) ks.length c, .int .i64 h.p] 55)) w8) := below2 (below2 (below2 HBr.out HB6.out) HV.out) hb8
            clear hb8 q0 q1 q2 q3 q4 q5 q6 q7
            have hmm := fun x => run_max x
            have hmx : (i : Int) + 1 ≤ 9223372036854775807 := by
              have h1 := HL.out.max
              have h2 := HL.out.cap
              simp only [Nd.ks, Nd.c] at h1 h2
              omega
            go_wp2_with fail
            rw [K9.out] at HD
            exact ⟨⟨i + 1, Nat.max D (d + 1 + 1), hlt, rfl, maxv EZ.out.2.2.2 (by have := EZ.out; omega), HB8.out, by show _ = _; rw [HD.out]; exact (Nat.max_assoc _ _ _).symm⟩, by simp only [intOf]; omega⟩
          | false =>
            have K9 : Hid (inc false (inc (decide (V < U)) d) = d + 1) := by show _ = _; rw [decide_eq_true hP]; rfl
            go_wp2_with fail
            refine (cG _).mono ?_
            rintro e w8 ⟨rfl, hb8⟩
            have HB8 : Hid (Below (w.alloc (.cells #[.int .u8 h.k, .int .u8 h.o, .int .u8 h.t, .int .i64 h.n, .int .u8 h.f, .string h.x, .slice (some ⟨b, o, none⟩) ks.length c, .int .i64 h.p] 55)).heap.size (w.alloc (.cells #[.int .u8 h.k, .int .u8 h.o, .int .u8 h.t, .int .i64 h.n, .int .u8 h.f, .string h.x, .slice (some ⟨b, o, none⟩) ks.length c, .int .i64 h.p] 55)) w8) := below2 (below2 (below2 HBr.out HB6.out) HV.out) hb8
            clear hb8 q0 q1 q2 q3 q4 q5 q6 q7
            have hmm := fun x => run_max x
            have hmx : (i : Int) + 1 ≤ 9223372036854775807 := by
              have h1 := HL.out.max
              have h2 := HL.out.cap
              simp only [Nd.ks, Nd.c] at h1 h2
              omega
            go_wp2_with fail
            rw [K9.out] at HD
            exact ⟨⟨i + 1, Nat.max D (d + 1), hlt, rfl, maxv EZ.out.2.2.2 (by have := EZ.out; omega), HB8.out, by show _ = _; rw [HD.out]; exact (Nat.max_assoc _ _ _).symm⟩, by simp only [intOf]; omega⟩
        · cases G with
          | true =>
            have K9 : Hid (inc true (inc (decide (V < U)) d) = d + 1) := by show _ = _; rw [decide_eq_false hP]; rfl
            go_wp2_with fail
            refine (cG _).mono ?_
            rintro e w8 ⟨rfl, hb8⟩
            have HB8 : Hid (Below (w.alloc (.cells #[.int .u8 h.k, .int .u8 h.o, .int .u8 h.t, .int .i64 h.n, .int .u8 h.f, .string h.x, .slice (some ⟨b, o, none⟩) ks.length c, .int .i64 h.p] 55)).heap.size (w.alloc (.cells #[.int .u8 h.k, .int .u8 h.o, .int .u8 h.t, .int .i64 h.n, .int .u8 h.f, .string h.x, .slice (some ⟨b, o, none⟩) ks.length c, .int .i64 h.p] 55)) w8) := below2 (below2 (below2 HBr.out HB6.out) HV.out) hb8
            clear hb8 q0 q1 q2 q3 q4 q5 q6 q7
            have hmm := fun x => run_max x
            have hmx : (i : Int) + 1 ≤ 9223372036854775807 := by
              have h1 := HL.out.max
              have h2 := HL.out.cap
              simp only [Nd.ks, Nd.c] at h1 h2
              omega
            go_wp2_with fail
            rw [K9.out] at HD
            exact ⟨⟨i + 1, Nat.max D (d + 1), hlt, rfl, maxv EZ.out.2.2.2 (by have := EZ.out; omega), HB8.out, by show _ = _; rw [HD.out]; exact (Nat.max_assoc _ _ _).symm⟩, by simp only [intOf]; omega⟩
          | false =>
            have K9 : Hid (inc false (inc (decide (V < U)) d) = d) := by show _ = _; rw [decide_eq_false hP]; rfl
            go_wp2_with fail
            refine (cG _).mono ?_
            rintro e w8 ⟨rfl, hb8⟩
            have HB8 : Hid (Below (w.alloc (.cells #[.int .u8 h.k, .int .u8 h.o, .int .u8 h.t, .int .i64 h.n, .int .u8 h.f, .string h.x, .slice (some ⟨b, o, none⟩) ks.length c, .int .i64 h.p] 55)).heap.size (w.alloc (.cells #[.int .u8 h.k, .int .u8 h.o, .int .u8 h.t, .int .i64 h.n, .int .u8 h.f, .string h.x, .slice (some ⟨b, o, none⟩) ks.length c, .int .i64 h.p] 55)) w8) := below2 (below2 (below2 HBr.out HB6.out) HV.out) hb8
            clear hb8 q0 q1 q2 q3 q4 q5 q6 q7
            have hmm := fun x => run_max x
            have hmx : (i : Int) + 1 ≤ 9223372036854775807 := by
              have h1 := HL.out.max
              have h2 := HL.out.cap
              simp only [Nd.ks, Nd.c] at h1 h2
              omega
            go_wp2_with fail
            rw [K9.out] at HD
            exact ⟨⟨i + 1, Nat.max D (d), hlt, rfl, maxv EZ.out.2.2.2 (by have := EZ.out; omega), HB8.out, by show _ = _; rw [HD.out]; exact (Nat.max_assoc _ _ _).symm⟩, by simp only [intOf]; omega⟩
    · obtain rfl : i = ks.length := by omega
      have hnot : ¬ (ks.length : Int) < (ks.length : Int) := by omega
      have HE : Hid (dep (.mk h a c ks) = D) := by show deps h 0 ks = _; rw [HR.out, List.drop_length]; show Nat.max D 0 = D; simp
      clear HR
      go_wp2_with fail
      go_ret
      exact ⟨by rw [HE.out]; rfl, HBR.out⟩
end Go.Proofs.YtighocmdlifheaaGreatDoor
