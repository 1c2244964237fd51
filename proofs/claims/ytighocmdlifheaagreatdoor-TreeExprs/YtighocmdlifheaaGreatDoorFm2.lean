/-
  needForm: it gives up at the first node that is none of the table's.
-/
import Derived.Test.YtighocmdlifheaaGreatDoorM2
import Derived.Test.YtighocmdlifheaaGreatDoorM5
import Derived.Deep.RegionHeld3
import Derived.Deep.RegionWith
import Derived.WalkLawsBesides
namespace Go.Proofs.YtighocmdlifheaaGreatDoor
open Go.RowKit
/-- How a look ends: it goes on, or it gives up with a number. -/
def endE (ok : Bool) (no : Int) : Ending := if ok = true then .returned (.tuple #[]) else .panicked [{ v := .iface 30 (.int .i64 no), recovered := false }]
theorem need_any (ok : Bool) (no : Int) (w : World) : Calls Tryz.prog 106 #[.bool ok, .int .i64 no] w fun e w' => e = endE ok no ∧ w' = w := by
  cases ok with
  | true =>
    go_enter Tryz.func106, Tryz.ntmps106
    go_wp2_with fail
    go_end0
    exact ⟨rfl, rfl⟩
  | false =>
    go_enter Tryz.func106, Tryz.ntmps106
    go_wp2_with fail
    exact ⟨rfl, rfl, rfl⟩
/-- The world has only grown, from X on. -/
def GB (X v : World) : Prop := Below X.heap.size X v
theorem GB.refl (X : World) : GB X X := Below.refl _ X
theorem GB.drew {X v : World} (h : GB X v) : GB X v.drew := Below.drew h
theorem GB.alloc {X v : World} (h : GB X v) (o : Obj) : GB X (v.alloc o) := Below.alloc h h.size o
theorem GB.call {X u v : World} (k : Below u.heap.size u v) (h : GB X u) : GB X v := Below.trans h (k.mono h.size)
theorem abs_world {Q P : World → Prop} {v : World} (h : P v) (k : ∀ v', P v' → Q v') : Q v := k v h
theorem need_t (no : Int) (w : World) : Calls Tryz.prog 106 #[.bool true, .int .i64 no] w fun e w' => e = .returned (.tuple #[]) ∧ w' = w := need_any true no w
theorem need_f (no : Int) (w : World) : Calls Tryz.prog 106 #[.bool false, .int .i64 no] w fun e w' => e = .panicked [{ v := .iface 30 (.int .i64 no), recovered := false }] ∧ w' = w := need_any false no w
theorem Tab.gb {X v : World} (h : Tab X) (k : GB X v) : Tab v := h.on k
/-- What a region keeps that looks at a node and at what it says. -/
structure KN (X : World) (M B : Nat) (m : Nd) : Prop where
  s : SfH X M m.h
  n : NdH X B m
theorem KN.hid {X : World} {M B : Nat} {m : Nd} (h : KN X M B m) : Hid (KN X M B m) := h
theorem KN.keep {X v : World} {M B : Nat} {m : Nd} (h : KN X M B m) (k : GB X v) : v.cell? ⟨M, 0, none⟩ = some (.int .u8 m.h.k) ∧ v.cell? ⟨M, 1, none⟩ = some (.int .u8 m.h.o) ∧ v.cell? ⟨M, 2, none⟩ = some (.int .u8 m.h.t) ∧ v.cell? ⟨M, 3, none⟩ = some (.int .i64 m.h.n) ∧ v.cell? ⟨M, 4, none⟩ = some (.int .u8 m.h.f) ∧ v.cell? ⟨M, 5, none⟩ = some (.string m.h.x) ∧ v.cell? ⟨B, 6, none⟩ = some (.slice m.a m.ks.length m.c) ∧ GB X v := by
  obtain ⟨a0, a1, a2, a3, a4, a5⟩ := (h.s.on k).cells
  exact ⟨a0, a1, a2, a3, a4, a5, (h.n.on k).at.c6, k⟩
theorem neq6 {h g : Hd} (e : alike h g = false) : h.k = g.k → h.o = g.o → h.t = g.t → h.n = g.n → h.f = g.f → ¬h.x.toList = g.x.toList := by
  intro h0 h1 h2 h3 h4 h6
  by_cases h5 : h.x = g.x
  · unfold alike at e
    simp [h0, h1, h2, h3, h4, h5] at e
  · have := seq_ne h5
    simp [h6] at this
theorem alike_self {h : Hd} (e : alike h (nm h) = true) : selfA (nm h) = selfA h := by
  unfold alike at e
  simp only [Bool.and_eq_true, decide_eq_true_eq] at e
  obtain ⟨e0, e1, e2, e3, e4, e5⟩ := e
  unfold selfA
  rw [← e0, ← e1, ← e2, ← e3, ← e4, ← e5]
set_option maxRecDepth 100000 in
set_option maxHeartbeats 4000000 in
theorem form_any : ∀ (m : Nd) (w : World), Lies w m → Tab w → Calls Tryz.prog 105 #[.agg m.vals] w fun e w' => e = endE (formB m) 120 ∧ Below w.heap.size w w' := by
  refine Nd.ind fun h a c ks ih w hl ht => ?_
  have cS : ∀ v, Calls Tryz.prog 80 #[.agg #[.int .u8 h.k, .int .u8 h.o, .int .u8 h.t, .int .i64 h.n, .int .u8 h.f, .string h.x, .slice a ks.length c, .int .i64 h.p]] v fun e w' => e = .returned (.agg #[.int .u8 h.k, .int .u8 h.o, .int .u8 h.t, .int .i64 h.n, .int .u8 h.f, .string h.x]) ∧ Below v.heap.size v w' := fun v => selfOf_any h a ks.length c v
  have HI : Hid (∀ k ∈ ks, ∀ (w : World), Lies w k → Tab w → Calls Tryz.prog 105 #[.agg k.vals] w fun e w' => e = endE (formB k) 120 ∧ Below w.heap.size w w') := ih
  have HL := hl.hid
  have HT := ht.hid
  have hx := hl.rg.x1
  obtain ⟨A, eA⟩ : ∃ A, alike h (nm h) = A := ⟨_, rfl⟩
  clear ih hl ht
  show Calls Tryz.prog 105 #[.agg #[.int .u8 h.k, .int .u8 h.o, .int .u8 h.t, .int .i64 h.n, .int .u8 h.f, .string h.x, .slice a ks.length c, .int .i64 h.p]] w _
  cases A with
  | true =>
    have cN : ∀ v, Calls Tryz.prog 126 #[.agg #[.int .u8 h.k, .int .u8 h.o, .int .u8 h.t, .int .i64 h.n, .int .u8 h.f, .string h.x]] v fun e w' => e = .returned (.agg #[.int .u8 h.k, .int .u8 h.o, .int .u8 h.t, .int .i64 h.n, .int .u8 h.f, .string h.x]) ∧ Below v.heap.size v w' := fun v => by
      have := named_any h v
      rw [alike_self eA] at this
      exact this
    obtain ⟨B, eB⟩ : ∃ B, fitB h ks.length = B := ⟨_, rfl⟩
    have cF : ∀ v, Tab v → Calls Tryz.prog 127 #[.agg #[.int .u8 h.k, .int .u8 h.o, .int .u8 h.t, .int .i64 h.n, .int .u8 h.f, .string h.x], .int .i64 (ks.length : Int)] v fun e w' => e = .returned (.bool B) ∧ Below v.heap.size v w' := fun v hv => by
      have := fits_any h ks.length hx v hv
      rw [eB] at this
      exact this
    have KA : Hid (oneH h ks.length = B) := by show _ = _; unfold oneH; rw [eA, eB]; rfl
    clear eA eB hx
    go_enter Tryz.func105, Tryz.ntmps105
    go_wp2_with (go_at_call 80; refine (cS _).mono ?_; rintro e w1 ⟨rfl, hb1⟩)
    have hbA : Below w.heap.size w w1 := below2 (below_new w (.cells #[.int .u8 h.k, .int .u8 h.o, .int .u8 h.t, .int .i64 h.n, .int .u8 h.f, .string h.x, .slice a ks.length c, .int .i64 h.p] 55)) hb1
    obtain ⟨X, eX⟩ : ∃ X, w1.alloc (.cells #[.int .u8 h.k, .int .u8 h.o, .int .u8 h.t, .int .i64 h.n, .int .u8 h.f, .string h.x] 117) = X := ⟨_, rfl⟩
    have hbX : Below w1.heap.size w1 X := by rw [← eX]; exact below_new _ _
    have HBX : Hid (Below w.heap.size w X) := below2 hbA hbX
    have HNX : Hid (NdH X w.heap.size (.mk h a c ks)) := NdH.on (NdH.on (show NdH (w.alloc (.cells (Nd.mk h a c ks).vals 55)) w.heap.size (.mk h a c ks) from heap_new _ _) hb1) hbX
    have HKX : Hid (KN X w1.heap.size w.heap.size (.mk h a c ks)) := ⟨by rw [← eX]; exact heap_new _ _, HNX.out⟩
    have HTX : Hid (Tab X) := HT.out.on HBX.out
    rw [eX]
    obtain ⟨M, eM⟩ : ∃ M, w1.heap.size = M := ⟨_, rfl⟩
    rw [eM] at HKX ⊢
    clear eM eX hbX hbA hb1 cS
    cases B with
    | true =>
      have KF : Hid (formB (.mk h a c ks) = formsB ks) := by show (oneH h ks.length && formsB ks) = _; rw [KA.out]; rfl
      refine wp_region_held_drew (S := (fun v => v.cell? ⟨M, 0, none⟩ = some (.int .u8 h.k) ∧ v.cell? ⟨M, 1, none⟩ = some (.int .u8 h.o) ∧ v.cell? ⟨M, 2, none⟩ = some (.int .u8 h.t) ∧ v.cell? ⟨M, 3, none⟩ = some (.int .i64 h.n) ∧ v.cell? ⟨M, 4, none⟩ = some (.int .u8 h.f) ∧ v.cell? ⟨M, 5, none⟩ = some (.string h.x) ∧ v.cell? ⟨w.heap.size, 6, none⟩ = some (.slice a ks.length c) ∧ GB X v)) (by kernel_rfl) (HKX.out.keep (by (repeat (first | with_reducible assumption | with_reducible exact GB.refl _ | with_reducible apply GB.drew | with_reducible apply GB.alloc | with_reducible refine GB.call (by with_reducible assumption) ?_)))) (fun hHeld => ?_)
      refine wpAnyH_take (i := 0) (v := ?_) rfl (by kernel_rfl) (by kernel_rfl) (by kernel_rfl) (fun _ _ _ h => h) (Or.inl ⟨by rfl, ?_⟩) (by assumption) ?_
      rotate_left
      · (intro w hSw; (try dsimp only at hSw); go_simp; try (with_reducible rfl))
      try simp [Act.put]
      refine wpAnyH_take (i := 1) (v := ?_) rfl (by kernel_rfl) (by kernel_rfl) (by kernel_rfl) (fun _ _ _ h => h) (Or.inl ⟨by rfl, ?_⟩) (by assumption) ?_
      rotate_left
      · (intro w hSw; (try dsimp only at hSw); go_simp; try (with_reducible rfl))
      try simp [Act.put]
      refine wpAnyH_ready (rs := [2]) (by kernel_rfl) (by simp) ?_
      refine AllReadyH.cons rfl (fun K hK => ?_) AllReadyH.nil
      go_simp
      refine (cN _).mono ?_
      rintro e w2 ⟨rfl, hb2⟩
      have hg2 : GB X w2 := GB.call hb2 (by (repeat (first | with_reducible assumption | with_reducible exact GB.refl _ | with_reducible apply GB.drew | with_reducible apply GB.alloc | with_reducible refine GB.call (by with_reducible assumption) ?_)))
      have HG2 : Hid (GB X w2) := hg2
      go_simp
      refine hK.out _ _ ?_ (fun hHeld => ?_)
      · exact HKX.out.keep hg2
      clear hK K
      try simp [Act.put]
      refine wpAnyH_take (i := 3) (v := ?_) rfl (by kernel_rfl) (by kernel_rfl) (by kernel_rfl) (fun _ _ _ h => h) (Or.inl ⟨by rfl, ?_⟩) (by assumption) ?_
      rotate_left
      · (intro w hSw; (try dsimp only at hSw); go_simp; try (with_reducible rfl))
      try simp [Act.put]
      refine wpAnyH_take (i := 4) (v := ?_) rfl (by kernel_rfl) (by kernel_rfl) (by kernel_rfl) (fun _ _ _ h => h) (Or.inl ⟨by rfl, ?_⟩) (by assumption) ?_
      rotate_left
      · (intro w hSw; (try dsimp only at hSw); go_simp; try (with_reducible rfl))
      try simp [Act.put]
      refine wpAnyH_take (i := 5) (v := ?_) rfl (by kernel_rfl) (by kernel_rfl) (by kernel_rfl) (fun _ _ _ h => h) (Or.inl ⟨by rfl, ?_⟩) (by assumption) ?_
      rotate_left
      · (intro w hSw; (try dsimp only at hSw); go_simp; try (with_reducible rfl))
      try simp [Act.put]
      refine wpAnyH_take (i := 6) (v := ?_) rfl (by kernel_rfl) (by kernel_rfl) (by kernel_rfl) (fun _ _ _ h => h) (Or.inl ⟨by rfl, ?_⟩) (by assumption) ?_
      rotate_left
      · (intro w hSw; (try dsimp only at hSw); go_simp; try (with_reducible rfl))
      try simp [Act.put]
      refine wpAnyH_take (i := 7) (v := ?_) rfl (by kernel_rfl) (by kernel_rfl) (by kernel_rfl) (fun _ _ _ h => h) (Or.inl ⟨by rfl, ?_⟩) (by assumption) ?_
      rotate_left
      · (intro w hSw; (try dsimp only at hSw); go_simp; try (with_reducible rfl))
      try simp [Act.put]
      refine wpAnyH_take (i := 8) (v := ?_) rfl (by kernel_rfl) (by kernel_rfl) (by kernel_rfl) (fun _ _ _ h => h) (Or.inl ⟨by rfl, ?_⟩) (by assumption) ?_
      rotate_left
      · (intro w hSw; (try dsimp only at hSw); go_simp; try (with_reducible rfl))
      try simp [Act.put]
      refine wpAnyH_ready (rs := [9]) (by kernel_rfl) (by simp) ?_
      refine AllReadyH.cons rfl (fun K hK => ?_) AllReadyH.nil
      go_simp
      refine (cF _ (HTX.out.gb HG2.out)).mono ?_
      rintro e w3 ⟨rfl, hb3⟩
      have hg3 : GB X w3 := GB.call hb3 HG2.out
      have HG3 : Hid (GB X w3) := hg3
      go_simp
      refine hK.out _ _ ?_ (fun hHeld => ?_)
      · exact HKX.out.keep hg3
      clear hK K
      try simp [Act.put]
      refine wpAnyH_take (i := 10) (v := ?_) rfl (by kernel_rfl) (by kernel_rfl) (by kernel_rfl) (fun _ _ _ h => h) (Or.inl ⟨by rfl, ?_⟩) (by assumption) ?_
      rotate_left
      · (intro w hSw; (try dsimp only at hSw); go_simp; try (with_reducible rfl))
      try simp [Act.put]
      refine wpAnyH_ready (rs := [11]) (by kernel_rfl) (by simp) ?_
      refine AllReadyH.cons rfl (fun K hK => ?_) AllReadyH.nil
      go_simp
      refine (need_t 120 _).mono ?_
      rintro e w4 ⟨rfl, e4⟩
      obtain rfl := e4.symm
      go_simp
      refine hK.out _ _ ?_ (fun hHeld => ?_)
      · exact HKX.out.keep HG3.out
      clear hK K
      try simp [Act.put]
      refine wpAnyH_done (by kernel_rfl) ?_ _
      have HBV : Hid (Below w.heap.size w w3) := below2 HBX.out HG3.out
      have HNV : Hid (NdH w3 w.heap.size (.mk h a c ks)) := HNX.out.on HG3.out
      have v6 : w3.cell? ⟨w.heap.size, 6, none⟩ = some (.slice a ks.length c) := HNV.out.at.c6
      clear hHeld hb2 hb3 hg2 hg3 cN cF
      go_wp2_with fail
      go_loopw [22] (fun t wr => ∃ i : Nat, i ≤ ks.length ∧ t = .int .i64 i ∧ Below w.heap.size w wr ∧ Hid (formsB ks = formsB (ks.drop i))) (fun t _ => ks.length - (intOf t).toNat)
      case atStart => exact ⟨0, by omega, rfl, HBV.out, rfl⟩
      case round =>
        obtain ⟨i, hi, rfl, hbr, HR⟩ := hrel
        have HBR : Hid (Below w.heap.size w wr) := hbr
        clear hbr
        by_cases hlt : i < ks.length
        · have hlt' : (i : Int) < (ks.length : Int) := by omega
          have hmx : (i : Int) + 1 ≤ 9223372036854775807 := by
            have h1 := HL.out.max
            have h2 := HL.out.cap
            simp only [Nd.ks, Nd.c] at h1 h2
            omega
          obtain ⟨b, o, e, hat⟩ := (HL.out.on HBR.out).kid i hlt
          have e : a = some ⟨b, o, none⟩ := e
          subst e
          have cI := HI.out ks[i] (nth_mem hlt)
          have HLk : Hid (Lies w ks[i]) := HL.out.sub ks[i] (nth_mem hlt)
          obtain ⟨k, ek⟩ : ∃ k, ks[i] = k := ⟨_, rfl⟩
          have hat : NdAt wr b (o + i * 8) k := by rw [← ek]; exact hat
          rw [ek] at cI HLk
          have HD : Hid (formsB ks = (formB k && formsB (ks.drop (i + 1)))) := by show _ = _; rw [HR.out, drop_nth hlt, ek]; rfl
          obtain ⟨y0, y1, y2, y3, y4, y5, y6, y7⟩ := hat
          obtain ⟨B, eB⟩ : ∃ B, formB k = B := ⟨_, rfl⟩
          rw [eB] at HD cI
          clear ek eB HR
          unfold Nd.vals hdA at cI
          cases B with
          | true =>
            have cI : ∀ v, Lies v k → Tab v → Calls Tryz.prog 105 #[.agg #[.int .u8 k.h.k, .int .u8 k.h.o, .int .u8 k.h.t, .int .i64 k.h.n, .int .u8 k.h.f, .string k.h.x, .slice k.a k.ks.length k.c, .int .i64 k.h.p]] v fun e w' => e = .returned (.tuple #[]) ∧ Below v.heap.size v w' := cI
            go_wp2_with (go_at_call 105; refine (cI _ (HLk.out.on (below2 HBR.out (below_new _ _))) (HT.out.on (below2 HBR.out (below_new _ _)))).mono ?_; rintro e w5 ⟨rfl, hb5⟩)
            have HB5 : Hid (Below w.heap.size w w5) := below2 (below2 HBR.out (below_new _ _)) hb5
            clear hb5
            go_wp2_with fail
            exact ⟨⟨i + 1, hlt, rfl, HB5.out, by show _ = _; rw [HD.out]; rfl⟩, by simp only [intOf]; omega⟩
          | false =>
            have cI : ∀ v, Lies v k → Tab v → Calls Tryz.prog 105 #[.agg #[.int .u8 k.h.k, .int .u8 k.h.o, .int .u8 k.h.t, .int .i64 k.h.n, .int .u8 k.h.f, .string k.h.x, .slice k.a k.ks.length k.c, .int .i64 k.h.p]] v fun e w' => e = .panicked [{ v := .iface 30 (.int .i64 120), recovered := false }] ∧ Below v.heap.size v w' := cI
            go_wp2_with (go_at_call 105; refine (cI _ (HLk.out.on (below2 HBR.out (below_new _ _))) (HT.out.on (below2 HBR.out (below_new _ _)))).mono ?_; rintro e w5 ⟨rfl, hb5⟩)
            exact ⟨rfl, by rw [KF.out, HD.out]; rfl, below2 (below2 HBR.out (below_new _ _)) hb5⟩
        · obtain rfl : i = ks.length := by omega
          have hnot : ¬ (ks.length : Int) < (ks.length : Int) := by omega
          have HE : Hid (formsB ks = true) := by show _ = _; rw [HR.out, List.drop_length]; rfl
          clear HR
          go_wp2_with fail
          go_end0
          exact ⟨by rw [KF.out, HE.out]; rfl, HBR.out⟩
    | false =>
      have KF : Hid (formB (.mk h a c ks) = false) := by show (oneH h ks.length && formsB ks) = false; rw [KA.out]; rfl
      refine wp_region_held_drew (S := (fun v => v.cell? ⟨M, 0, none⟩ = some (.int .u8 h.k) ∧ v.cell? ⟨M, 1, none⟩ = some (.int .u8 h.o) ∧ v.cell? ⟨M, 2, none⟩ = some (.int .u8 h.t) ∧ v.cell? ⟨M, 3, none⟩ = some (.int .i64 h.n) ∧ v.cell? ⟨M, 4, none⟩ = some (.int .u8 h.f) ∧ v.cell? ⟨M, 5, none⟩ = some (.string h.x) ∧ v.cell? ⟨w.heap.size, 6, none⟩ = some (.slice a ks.length c) ∧ GB X v)) (by kernel_rfl) (HKX.out.keep (by (repeat (first | with_reducible assumption | with_reducible exact GB.refl _ | with_reducible apply GB.drew | with_reducible apply GB.alloc | with_reducible refine GB.call (by with_reducible assumption) ?_)))) (fun hHeld => ?_)
      refine wpAnyH_take (i := 0) (v := ?_) rfl (by kernel_rfl) (by kernel_rfl) (by kernel_rfl) (fun _ _ _ h => h) (Or.inl ⟨by rfl, ?_⟩) (by assumption) ?_
      rotate_left
      · (intro w hSw; (try dsimp only at hSw); go_simp; try (with_reducible rfl))
      try simp [Act.put]
      refine wpAnyH_take (i := 1) (v := ?_) rfl (by kernel_rfl) (by kernel_rfl) (by kernel_rfl) (fun _ _ _ h => h) (Or.inl ⟨by rfl, ?_⟩) (by assumption) ?_
      rotate_left
      · (intro w hSw; (try dsimp only at hSw); go_simp; try (with_reducible rfl))
      try simp [Act.put]
      refine wpAnyH_ready (rs := [2]) (by kernel_rfl) (by simp) ?_
      refine AllReadyH.cons rfl (fun K hK => ?_) AllReadyH.nil
      go_simp
      refine (cN _).mono ?_
      rintro e w2 ⟨rfl, hb2⟩
      have hg2 : GB X w2 := GB.call hb2 (by (repeat (first | with_reducible assumption | with_reducible exact GB.refl _ | with_reducible apply GB.drew | with_reducible apply GB.alloc | with_reducible refine GB.call (by with_reducible assumption) ?_)))
      have HG2 : Hid (GB X w2) := hg2
      go_simp
      refine hK.out _ _ ?_ (fun hHeld => ?_)
      · exact HKX.out.keep hg2
      clear hK K
      try simp [Act.put]
      refine wpAnyH_take (i := 3) (v := ?_) rfl (by kernel_rfl) (by kernel_rfl) (by kernel_rfl) (fun _ _ _ h => h) (Or.inl ⟨by rfl, ?_⟩) (by assumption) ?_
      rotate_left
      · (intro w hSw; (try dsimp only at hSw); go_simp; try (with_reducible rfl))
      try simp [Act.put]
      refine wpAnyH_take (i := 4) (v := ?_) rfl (by kernel_rfl) (by kernel_rfl) (by kernel_rfl) (fun _ _ _ h => h) (Or.inl ⟨by rfl, ?_⟩) (by assumption) ?_
      rotate_left
      · (intro w hSw; (try dsimp only at hSw); go_simp; try (with_reducible rfl))
      try simp [Act.put]
      refine wpAnyH_take (i := 5) (v := ?_) rfl (by kernel_rfl) (by kernel_rfl) (by kernel_rfl) (fun _ _ _ h => h) (Or.inl ⟨by rfl, ?_⟩) (by assumption) ?_
      rotate_left
      · (intro w hSw; (try dsimp only at hSw); go_simp; try (with_reducible rfl))
      try simp [Act.put]
      refine wpAnyH_take (i := 6) (v := ?_) rfl (by kernel_rfl) (by kernel_rfl) (by kernel_rfl) (fun _ _ _ h => h) (Or.inl ⟨by rfl, ?_⟩) (by assumption) ?_
      rotate_left
      · (intro w hSw; (try dsimp only at hSw); go_simp; try (with_reducible rfl))
      try simp [Act.put]
      refine wpAnyH_take (i := 7) (v := ?_) rfl (by kernel_rfl) (by kernel_rfl) (by kernel_rfl) (fun _ _ _ h => h) (Or.inl ⟨by rfl, ?_⟩) (by assumption) ?_
      rotate_left
      · (intro w hSw; (try dsimp only at hSw); go_simp; try (with_reducible rfl))
      try simp [Act.put]
      refine wpAnyH_take (i := 8) (v := ?_) rfl (by kernel_rfl) (by kernel_rfl) (by kernel_rfl) (fun _ _ _ h => h) (Or.inl ⟨by rfl, ?_⟩) (by assumption) ?_
      rotate_left
      · (intro w hSw; (try dsimp only at hSw); go_simp; try (with_reducible rfl))
      try simp [Act.put]
      refine wpAnyH_ready (rs := [9]) (by kernel_rfl) (by simp) ?_
      refine AllReadyH.cons rfl (fun K hK => ?_) AllReadyH.nil
      go_simp
      refine (cF _ (HTX.out.gb HG2.out)).mono ?_
      rintro e w3 ⟨rfl, hb3⟩
      have hg3 : GB X w3 := GB.call hb3 HG2.out
      have HG3 : Hid (GB X w3) := hg3
      go_simp
      refine hK.out _ _ ?_ (fun hHeld => ?_)
      · exact HKX.out.keep hg3
      clear hK K
      try simp [Act.put]
      refine wpAnyH_take (i := 10) (v := ?_) rfl (by kernel_rfl) (by kernel_rfl) (by kernel_rfl) (fun _ _ _ h => h) (Or.inl ⟨by rfl, ?_⟩) (by assumption) ?_
      rotate_left
      · (intro w hSw; (try dsimp only at hSw); go_simp; try (with_reducible rfl))
      try simp [Act.put]
      refine wpAnyH_ready (rs := [11]) (by kernel_rfl) (by simp) ?_
      refine AllReadyH.cons rfl (fun K hK => ?_) AllReadyH.nil
      go_simp
      refine (need_f 120 _).mono ?_
      rintro e w4 ⟨rfl, e4⟩
      obtain rfl := e4.symm
      exact ⟨rfl, by rw [KF.out]; rfl, below2 HBX.out HG3.out⟩
  | false =>
    have KF : Hid (formB (.mk h a c ks) = false) := by show (oneH h ks.length && formsB ks) = false; unfold oneH; rw [eA]; rfl
    obtain ⟨g, eg⟩ : ∃ g, nm h = g := ⟨_, rfl⟩
    have cN : ∀ v, Calls Tryz.prog 126 #[.agg #[.int .u8 h.k, .int .u8 h.o, .int .u8 h.t, .int .i64 h.n, .int .u8 h.f, .string h.x]] v fun e w' => e = .returned (.agg #[.int .u8 g.k, .int .u8 g.o, .int .u8 g.t, .int .i64 g.n, .int .u8 g.f, .string g.x]) ∧ Below v.heap.size v w' := fun v => by
      have := named_any h v
      rw [eg] at this
      exact this
    rw [eg] at eA
    have HA : Hid (alike h g = false) := eA
    clear eA eg
    go_enter Tryz.func105, Tryz.ntmps105
    go_wp2_with (go_at_call 80; refine (cS _).mono ?_; rintro e w1 ⟨rfl, hb1⟩)
    have hbA : Below w.heap.size w w1 := below2 (below_new w (.cells #[.int .u8 h.k, .int .u8 h.o, .int .u8 h.t, .int .i64 h.n, .int .u8 h.f, .string h.x, .slice a ks.length c, .int .i64 h.p] 55)) hb1
    obtain ⟨X, eX⟩ : ∃ X, w1.alloc (.cells #[.int .u8 h.k, .int .u8 h.o, .int .u8 h.t, .int .i64 h.n, .int .u8 h.f, .string h.x] 117) = X := ⟨_, rfl⟩
    have hbX : Below w1.heap.size w1 X := by rw [← eX]; exact below_new _ _
    have HBX : Hid (Below w.heap.size w X) := below2 hbA hbX
    have HNX : Hid (NdH X w.heap.size (.mk h a c ks)) := NdH.on (NdH.on (show NdH (w.alloc (.cells (Nd.mk h a c ks).vals 55)) w.heap.size (.mk h a c ks) from heap_new _ _) hb1) hbX
    have HKX : Hid (KN X w1.heap.size w.heap.size (.mk h a c ks)) := ⟨by rw [← eX]; exact heap_new _ _, HNX.out⟩
    have HTX : Hid (Tab X) := HT.out.on HBX.out
    rw [eX]
    obtain ⟨M, eM⟩ : ∃ M, w1.heap.size = M := ⟨_, rfl⟩
    rw [eM] at HKX ⊢
    clear eM eX hbX hbA hb1 cS
    refine wp_region_held_drew (S := (fun v => v.cell? ⟨M, 0, none⟩ = some (.int .u8 h.k) ∧ v.cell? ⟨M, 1, none⟩ = some (.int .u8 h.o) ∧ v.cell? ⟨M, 2, none⟩ = some (.int .u8 h.t) ∧ v.cell? ⟨M, 3, none⟩ = some (.int .i64 h.n) ∧ v.cell? ⟨M, 4, none⟩ = some (.int .u8 h.f) ∧ v.cell? ⟨M, 5, none⟩ = some (.string h.x) ∧ v.cell? ⟨w.heap.size, 6, none⟩ = some (.slice a ks.length c) ∧ GB X v)) (by kernel_rfl) (HKX.out.keep (by (repeat (first | with_reducible assumption | with_reducible exact GB.refl _ | with_reducible apply GB.drew | with_reducible apply GB.alloc | with_reducible refine GB.call (by with_reducible assumption) ?_)))) (fun hHeld => ?_)
    refine wpAnyH_take (i := 0) (v := ?_) rfl (by kernel_rfl) (by kernel_rfl) (by kernel_rfl) (fun _ _ _ h => h) (Or.inl ⟨by rfl, ?_⟩) (by assumption) ?_
    rotate_left
    · (intro w hSw; (try dsimp only at hSw); go_simp; try (with_reducible rfl))
    try simp [Act.put]
    refine wpAnyH_take (i := 1) (v := ?_) rfl (by kernel_rfl) (by kernel_rfl) (by kernel_rfl) (fun _ _ _ h => h) (Or.inl ⟨by rfl, ?_⟩) (by assumption) ?_
    rotate_left
    · (intro w hSw; (try dsimp only at hSw); go_simp; try (with_reducible rfl))
    try simp [Act.put]
    refine wpAnyH_ready (rs := [2]) (by kernel_rfl) (by simp) ?_
    refine AllReadyH.cons rfl (fun K hK => ?_) AllReadyH.nil
    go_simp
    refine (cN _).mono ?_
    rintro e w2 ⟨rfl, hb2⟩
    have hg2 : GB X w2 := GB.call hb2 (by (repeat (first | with_reducible assumption | with_reducible exact GB.refl _ | with_reducible apply GB.drew | with_reducible apply GB.alloc | with_reducible refine GB.call (by with_reducible assumption) ?_)))
    have HG2 : Hid (GB X w2) := hg2
    go_simp
    refine hK.out _ _ ?_ (fun hHeld => ?_)
    · exact HKX.out.keep hg2
    clear hK K
    try simp [Act.put]
    refine wpAnyH_take (i := 3) (v := .bool false) rfl (by kernel_rfl) (by kernel_rfl) (by kernel_rfl) (fun _ _ _ h => h) (Or.inl ⟨by rfl, ?_⟩) (by assumption) ?_
    · (intro w hSw; (try dsimp only at hSw); go_simp; exact neq6 HA.out)
    try simp [Act.put]
    refine wpAnyH_take (i := 4) (v := ?_) rfl (by kernel_rfl) (by kernel_rfl) (by kernel_rfl) (fun _ _ _ h => h) (Or.inl ⟨by rfl, ?_⟩) (by assumption) ?_
    rotate_left
    · (intro w hSw; (try dsimp only at hSw); go_simp; try (with_reducible rfl))
    try simp [Act.put]
    refine wpAnyH_take (i := 5) (v := ?_) rfl (by kernel_rfl) (by kernel_rfl) (by kernel_rfl) (fun _ _ _ h => h) (Or.inr ⟨by rfl, ?_⟩) (by assumption) ?_
    rotate_left
    · rfl
    try simp [Act.put]
    refine wpAnyH_take (i := 6) (v := ?_) rfl (by kernel_rfl) (by kernel_rfl) (by kernel_rfl) (fun _ _ _ h => h) (Or.inr ⟨by rfl, ?_⟩) (by assumption) ?_
    rotate_left
    · rfl
    try simp [Act.put]
    refine wpAnyH_take (i := 7) (v := ?_) rfl (by kernel_rfl) (by kernel_rfl) (by kernel_rfl) (fun _ _ _ h => h) (Or.inr ⟨by rfl, ?_⟩) (by assumption) ?_
    rotate_left
    · rfl
    try simp [Act.put]
    refine wpAnyH_take (i := 8) (v := ?_) rfl (by kernel_rfl) (by kernel_rfl) (by kernel_rfl) (fun _ _ _ h => h) (Or.inr ⟨by rfl, ?_⟩) (by assumption) ?_
    rotate_left
    · rfl
    try simp [Act.put]
    refine wpAnyH_take (i := 9) (v := ?_) rfl (by kernel_rfl) (by kernel_rfl) (by kernel_rfl) (fun _ _ _ h => h) (Or.inr ⟨by rfl, ?_⟩) (by assumption) ?_
    rotate_left
    · rfl
    try simp [Act.put]
    refine wpAnyH_take (i := 10) (v := ?_) rfl (by kernel_rfl) (by kernel_rfl) (by kernel_rfl) (fun _ _ _ h => h) (Or.inl ⟨by rfl, ?_⟩) (by assumption) ?_
    rotate_left
    · (intro w hSw; (try dsimp only at hSw); go_simp; try (with_reducible rfl))
    try simp [Act.put]
    refine wpAnyH_ready (rs := [11]) (by kernel_rfl) (by simp) ?_
    refine AllReadyH.cons rfl (fun K hK => ?_) AllReadyH.nil
    go_simp
    refine (need_f 120 _).mono ?_
    rintro e w4 ⟨rfl, e4⟩
    obtain rfl := e4.symm
    exact ⟨rfl, by rw [KF.out]; rfl, below2 HBX.out HG2.out⟩
end Go.Proofs.YtighocmdlifheaaGreatDoor
