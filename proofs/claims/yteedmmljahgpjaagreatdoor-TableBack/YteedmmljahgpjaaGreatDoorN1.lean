import Derived.Test.YteedmmljahgpjaaGreatDoorM38
import Derived.Test.YteedmmljahgpjaaGreatDoorUo
import Derived.Test.YteedmmljahgpjaaGreatDoorVr
import Derived.Test.YteedmmljahgpjaaGreatDoorUq
import Derived.Test.YteedmmljahgpjaaGreatDoorM29
/-
  What is told of a table hangs on nothing but what it holds.
-/
namespace Go.Proofs.YteedmmljahgpjaaGreatDoor
open Go.RowKit
set_option linter.unusedVariables false
set_option linter.unusedSimpArgs false
structure SmP (u t : TbM) : Prop where
  x : u.x = t.x
  s : u.sl = t.sl
  r : u.rs = t.rs
  c : u.cs = t.cs
  d : u.ds = t.ds
theorem stand_s {u t : TbM} (h : SmP u t) (d : InM) (a b : Int) : standB u d a b = standB t d a b := by unfold standB; rw [h.r, h.c]
theorem stands_s {u t : TbM} (h : SmP u t) (b : Nat) : ∀ n a, standsL u b n a = standsL t b n a
  | 0, a => rfl
  | n + 1, a => by simp only [standsL]; rw [stand_s h, h.d, stands_s h b n (a + 1)]
theorem sp_s {u t : TbM} (h : SmP u t) (x : Sp) : spD u x = spD t x := by
  unfold spD spanE
  rw [stands_s h, h.d]
theorem sps_s {u t : TbM} (h : SmP u t) : ∀ l, spsD u l = spsD t l
  | [] => rfl
  | x :: l => by simp only [spsD]; rw [sp_s h, sps_s h l]
theorem rws_s {u t : TbM} (h : SmP u t) : ∀ l, rwsD u l = rwsD t l
  | [] => rfl
  | r :: l => by simp only [rwsD]; rw [sps_s h, rws_s h l]
theorem gd_s {u t : TbM} (h : SmP u t) {g g' : GdM} (k : SameG g g') : gdD u g = gdD t g' := by
  obtain ⟨k1, k2, k3, k4, k5⟩ := k
  have hw : g.wh = g'.wh := by
    obtain ⟨⟨a, b⟩, _, _, _, _, _⟩ := g
    obtain ⟨⟨c, d⟩, _, _, _, _, _⟩ := g'
    simp only at k1 k2
    subst k1 k2
    rfl
  unfold gdD
  rw [sp_s h, h.d, hw, k3, k4, k5, rws_s h]
theorem gdN_s {sl : Int} {nr ns : Nat} {g g' : GdM} (k : SameG g g') (p : Int) : gdN sl nr ns g p = gdN sl nr ns g' p := by
  obtain ⟨k1, k2, k3, k4, k5⟩ := k
  have hw : g.wh = g'.wh := by
    obtain ⟨⟨a, b⟩, _, _, _, _, _⟩ := g
    obtain ⟨⟨c, d⟩, _, _, _, _, _⟩ := g'
    simp only at k1 k2
    subst k1 k2
    rfl
  unfold gdN gSp
  rw [hw, k5]
def GsS (l l' : List GdM) : Prop := l.length = l'.length ∧ ∀ j (h3 : j < l.length) (h4 : j < l'.length), SameG l[j] l'[j]
theorem GsS.cons {g g' : GdM} {l l' : List GdM} (h : GsS (g :: l) (g' :: l')) : SameG g g' ∧ GsS l l' :=
  ⟨h.2 0 (by simp) (by simp), by simpa using h.1, fun j h3 h4 => h.2 (j + 1) (by simpa using h3) (by simpa using h4)⟩
theorem gds_s {u t : TbM} (h : SmP u t) : ∀ l l', GsS l l' → gdsD u l = gdsD t l'
  | [], [], _ => rfl
  | g :: l, g' :: l', k => by
    simp only [gdsD]
    rw [gd_s h k.cons.1, gds_s h l l' k.cons.2]
  | [], _ :: _, k => by have := k.1; simp at this
  | _ :: _, [], k => by have := k.1; simp at this
theorem gdsN_s {sl : Int} {nr ns : Nat} : ∀ (l l' : List GdM), GsS l l' → ∀ p, gdsN sl nr ns p l = gdsN sl nr ns p l'
  | [], [], _, p => rfl
  | g :: l, g' :: l', k, p => by
    simp only [gdsN]
    rw [gdN_s k.cons.1]
    congr 1
    funext q
    exact gdsN_s l l' k.cons.2 q
  | [], _ :: _, k, _ => by have := k.1; simp at this
  | _ :: _, [], k, _ => by have := k.1; simp at this
def TsS (l l' : List StM) : Prop := l.length = l'.length ∧ ∀ j (h3 : j < l.length) (h4 : j < l'.length), SameS l[j] l'[j]
theorem TsS.cons {g g' : StM} {l l' : List StM} (h : TsS (g :: l) (g' :: l')) : SameS g g' ∧ TsS l l' :=
  ⟨h.2 0 (by simp) (by simp), by simpa using h.1, fun j h3 h4 => h.2 (j + 1) (by simpa using h3) (by simpa using h4)⟩
theorem sts_s {u t : TbM} (h : SmP u t) : ∀ l l', TsS l l' → stsD u l = stsD t l'
  | [], [], _ => rfl
  | g :: l, g' :: l', k => by
    simp only [stsD]
    rw [gds_s h g.gs g'.gs ⟨k.cons.1.1, k.cons.1.2⟩, sts_s h l l' k.cons.2]
  | [], _ :: _, k => by have := k.1; simp at this
  | _ :: _, [], k => by have := k.1; simp at this
theorem stsN_s {sl : Int} {nr ns : Nat} : ∀ (l l' : List StM), TsS l l' → ∀ p, stsN sl nr ns p l = stsN sl nr ns p l'
  | [], [], _, p => rfl
  | g :: l, g' :: l', k, p => by
    simp only [stsN]
    rw [k.cons.1.1, gdsN_s g.gs g'.gs ⟨k.cons.1.1, k.cons.1.2⟩]
    congr 1
    congr 1
    funext q
    exact stsN_s l l' k.cons.2 q
  | [], _ :: _, k, _ => by have := k.1; simp at this
  | _ :: _, [], k, _ => by have := k.1; simp at this
theorem check_s {u t : TbM} (h : SameT u t) : checkE u = checkE t := by
  obtain ⟨h1, h2, h3, h4, h5, h6, h7⟩ := h
  have hp : SmP u t := ⟨h1, h2, h3, h4, h5⟩
  have ht : TsS u.ts t.ts := ⟨h6, fun j h3 h4 => h7 j h3 h4 h3⟩
  rw [checkD_eq, checkD_eq, sts_s hp _ _ ht]
  have hf : formB u = formB t := by
    unfold formB sizesB
    rw [h1, h2, h3, h4, h5, h6, stsN_s _ _ ht]
  rw [hf]
end Go.Proofs.YteedmmljahgpjaaGreatDoor

/-
  TableChecks, walked.
-/
namespace Go.Proofs.YteedmmljahgpjaaGreatDoor
open Go.RowKit
set_option linter.unusedVariables false
set_option linter.unusedSimpArgs false
set_option maxRecDepth 100000 in
set_option maxHeartbeats 4000000 in
theorem checks_any (t : TbM) (w : World) (hl : TbL w t) (hz : TbZ t) (htb : Tab w) : Calls Tryz.prog 3 #[.agg t.vals] w fun e w' => e = .returned (.bool true) ∧ Below w.heap.size w w' := by
  have hb1 := below_new w (.cells t.vals 26)
  have hn1 := heap_new w (.cells t.vals 26)
  obtain ⟨W1, e1⟩ : ∃ W, w.alloc (.cells t.vals 26) = W := ⟨_, rfl⟩
  have E1 : Hid (w.alloc (.cells t.vals 26) = W1) := e1
  rw [e1] at hb1 hn1
  have HB1 : Hid (Below w.heap.size w W1) := hb1
  have HN1 : Hid (W1.heap[w.heap.size]? = some (.cells t.vals 26 (0, 0))) := hn1
  have HL : Hid (TbL W1 t) := hl.on hb1
  have HT : Hid (Tab W1) := htb.on hb1
  have HZ : Hid (TbZ t) := hz
  have cA := awake_any W1 HT.out
  clear hb1 hn1 hl hz htb e1
  go_enter Tryz.func3, Tryz.ntmps3
  go_upto_region 1 with fail
  rw [E1.out]
  clear E1
  go_wp2_with fail
  refine cA.mono ?_
  rintro e w2 ⟨rfl, hb2⟩
  have HB2 : Hid (Below W1.heap.size W1 w2) := hb2
  have HN2 : Hid (w2.heap[w.heap.size]? = some (.cells t.vals 26 (0, 0))) := (hb2.block _ (hp_lt HN1.out)).trans HN1.out
  have cF := far_any t w2 (HL.out.on hb2) HZ.out
  clear cA hb2
  go_wp2_with (refine wpList_load_row rfl 26 (.tmp 1) rfl w.heap.size rfl 26 t.vals (0, 0) _ HN2.out Tryz.underlying26 rfl size26' ?_)
  refine cF.mono ?_
  rintro e w3 ⟨b, rfl, hsm, hb3⟩
  have HB3 : Hid (Below W1.heap.size W1 w3) := below2 HB2.out hb3
  have HN3 : Hid (w3.heap[w.heap.size]? = some (.cells t.vals 26 (0, 0))) := (HB3.out.block _ (hp_lt HN1.out)).trans HN1.out
  have HSM : Hid (b = false → SmT t) := hsm
  clear cF hb3 HB2 HN2 hsm
  cases b with
  | true =>
    go_wp2_with fail
    go_ret
    exact ⟨rfl, below2 HB1.out HB3.out⟩
  | false =>
    have cC := copy_any t w3 (HL.out.on HB3.out) (HSM.out rfl)
    go_wp2_with (refine wpList_load_row rfl 26 (.tmp 1) rfl w.heap.size rfl 26 t.vals (0, 0) _ HN3.out Tryz.underlying26 rfl size26' ?_)
    refine cC.mono ?_
    rintro e w4 ⟨u, rfl, hu, hsu, hb4⟩
    have HZ4 : Hid ((w4.alloc (.cells tb0 26)).heap[w4.heap.size]? = some (.cells tb0 26 (0, 0))) := heap_new _ _
    have hbx : Below w4.heap.size w4 ((w4.alloc (.cells tb0 26)).setRow w4.heap.size u.vals) := below_row (below_new _ _) (Nat.le_refl _) _
    have HB5 : Hid (Below W1.heap.size W1 ((w4.alloc (.cells tb0 26)).setRow w4.heap.size u.vals)) := below2 (below2 HB3.out hb4) hbx
    have HN5 : Hid (((w4.alloc (.cells tb0 26)).setRow w4.heap.size u.vals).heap[w4.heap.size]? = some (.cells u.vals 26 (0, 0))) := setRow_heap _ _ _ _ _ _ HZ4.out
    have HU5 : Hid (TbL ((w4.alloc (.cells tb0 26)).setRow w4.heap.size u.vals) u) := hu.on hbx
    have HSU : Hid (SameT u t) := hsu
    clear cC hb4 hbx hu hsu
    go_upto_region 6 with (refine wpList_store_row rfl 26 (.tmp 5) (.tmp 18) rfl w4.heap.size u.vals rfl rfl 26 tb0 HZ4.out size26' rfl (allTb u) ?_)
    rw [show (w4.alloc (.cells #[.string ⟨#[]⟩, .slice none 0 0, .int .i64 0, .slice none 0 0, .slice none 0 0, .slice none 0 0] 26)) = w4.alloc (.cells tb0 26) from rfl]
    generalize World.setRow _ _ _ = W5 at HB5 HN5 HU5 ⊢
    generalize w4.heap.size = G5 at HN5 ⊢
    clear HZ4 HN3 HB3
    have cK := check_any u W5 HU5.out (HT.out.on HB5.out)
    rw [check_s HSU.out] at cK
    have HCD : Hid (∀ v, TbL v t → Calls Tryz.prog 13 #[.agg t.vals] v fun e w' => e = .returned (.int .i64 (checkE t)) ∧ Below v.heap.size v w') := fun v hv => rcheck_any t v hv
    obtain ⟨E, eE⟩ : ∃ q, checkE t = q := ⟨_, rfl⟩
    rw [eE] at cK HCD
    clear eE
    go_wp2_with (refine wpList_load_row rfl 26 (.tmp 5) rfl G5 rfl 26 u.vals (0, 0) _ HN5.out Tryz.underlying26 rfl size26' ?_)
    refine cK.mono ?_
    rintro e w6 ⟨rfl, hb6⟩
    have HB6 : Hid (Below W1.heap.size W1 w6) := below2 HB5.out hb6
    have HN6 : Hid (w6.heap[G5]? = some (.cells u.vals 26 (0, 0))) := (hb6.block _ (hp_lt HN5.out)).trans HN5.out
    have HT6 : Hid (w6.heap[w.heap.size]? = some (.cells t.vals 26 (0, 0))) := (HB6.out.block _ (hp_lt HN1.out)).trans HN1.out
    have cS := sameTable_any u t w6 (HU5.out.on hb6) (HL.out.on HB6.out)
    clear cK hb6
    go_wp2_with (first | (refine wpList_load_row rfl 26 (.tmp 5) rfl G5 rfl 26 u.vals (0, 0) _ HN6.out Tryz.underlying26 rfl size26' ?_) | (refine wpList_load_row rfl 26 (.tmp 1) rfl w.heap.size rfl 26 t.vals (0, 0) _ HT6.out Tryz.underlying26 rfl size26' ?_))
    refine cS.mono ?_
    rintro e w7 ⟨b, rfl, hb, hb7⟩
    obtain rfl : b = true := hb.2 HSU.out
    have HB7 : Hid (Below W1.heap.size W1 w7) := below2 HB6.out hb7
    have HT7 : Hid (w7.heap[w.heap.size]? = some (.cells t.vals 26 (0, 0))) := (HB7.out.block _ (hp_lt HN1.out)).trans HN1.out
    clear cS hb hb7 HN6 HT6
    go_wp2_with (refine wpList_load_row rfl 26 (.tmp 1) rfl w.heap.size rfl 26 t.vals (0, 0) _ HT7.out Tryz.underlying26 rfl size26' ?_)
    refine (HCD.out w7 (HL.out.on HB7.out)).mono ?_
    rintro e w8 ⟨rfl, hb8⟩
    have HB8 : Hid (Below W1.heap.size W1 w8) := below2 HB7.out hb8
    clear hb8
    go_wp2_with fail
    go_ret
    exact ⟨by simp, below2 HB1.out HB8.out⟩
end Go.Proofs.YteedmmljahgpjaaGreatDoor
