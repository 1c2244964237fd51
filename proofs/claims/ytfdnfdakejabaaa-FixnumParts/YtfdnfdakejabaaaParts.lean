/-
  The walk of FixnumParts.
-/
import Derived.Test.YtfdnfdakejabaaaPartsA
namespace Go.Proofs.Ytfdnfdakejabaaa
open Go.RowKit

theorem works_b (w : World) : Calls Try.prog 8 #[] w fun e w' => e = .returned (.bool true) ∧ Below w.heap.size w w' := by
  refine (works_any w).mono ?_
  rintro e w' ⟨rfl, ⟨n, rfl⟩⟩
  exact ⟨rfl, works_below _ _ _ _⟩

set_option maxRecDepth 100000 in
set_option maxHeartbeats 4000000 in
theorem parts_some (bb off len cap c : Nat) (zs : List Int) (cut T a b : Int) (w : World) (hl : Lies w (some ⟨bb, off, none⟩) len zs) (hcap : len ≤ cap) (hlt : bb < w.heap.size) (hpos : 0 < len) (hmax : len ≤ 67108863) (hF : Fits zs)
    (a1 : -9223372036854775808 ≤ a) (a2 : a ≤ 9223372036854775807) (b1 : -9223372036854775808 ≤ b) (b2 : b ≤ 9223372036854775807)
    (_t1 : -9223372036854775808 ≤ cut) (_t2 : cut ≤ 9223372036854775807) (hT : Hid ((cut < 0 → -(cut + 1) = T) ∧ (0 ≤ cut → cut = T))) (_hT0 : 0 ≤ T) (_hTm : T ≤ 9223372036854775807) (hc : T % ((len : Int) + 1) = (c : Int)) (hcl : c ≤ len) :
    Calls Try.prog 7 #[.slice (some ⟨bb, off, none⟩) len cap, .int .i64 cut, .int .i64 a, .int .i64 b] w fun e w' => e = .returned (.bool true) ∧ Below w.heap.size w w' := by
  have hlast : Hid (Last a b) := last_all a b
  obtain ⟨i0, hi, hz0, hz1, hz2⟩ := info_parts Try.info2
  have HZ : Hid (zs.length = len) := hl.1
  go_enter Try.func7, Try.ntmps7
  go_wp2_with fail
  refine (works_b _).mono ?_
  rintro e W ⟨rfl, hbW⟩
  go_upto_if 40 with fail
  go_cut [1] from 34 (fun s wx => s = .int .i64 T ∧ wx = W)
  case first =>
    by_cases hneg : cut < 0
    · have hTr := hT.out.1 hneg
      go_wp2_with fail
      go_meet
      case rel => exact ⟨rfl, rfl⟩
    · have hTr := hT.out.2 (by omega)
      go_wp2_with fail
      go_meet
      case rel => exact ⟨rfl, rfl⟩
  case rest =>
    obtain ⟨hs1, hs2⟩ := hcut
    subst hs1
    subst hs2
    go_wp2_with fail
    rw [hc]
    refine (sum_lies _ len _ zs _ (hl.below hbW) (by omega) hF).mono ?_
    rintro e w2 ⟨rfl, rfl⟩
    go_wp2_with fail
    refine (sum_lies _ c _ (zs.take c) _ ((hl.below hbW).take c hcl) (by omega) (fits_take zs c hF)).mono ?_
    rintro e w2 ⟨rfl, rfl⟩
    go_upto_region 9 with fail
    go_cut [14, 15] from 34 (fun s1 s2 wx => s1 = .int .i64 (fitN (zs.drop c).sum) ∧ s2 = .bool (fitB (zs.drop c).sum) ∧ wx = w2)
    case first =>
      by_cases hcc : cap = c
      · subst hcc
        have hd : zs.drop cap = [] := List.drop_eq_nil_of_le (by rw [HZ.out]; exact hcap)
        have hd1 : Hid (Value.int .i64 0 = .int .i64 (fitN (zs.drop cap).sum)) := by show Value.int .i64 0 = .int .i64 (fitN (zs.drop cap).sum); rw [hd]; rfl
        have hd2 : Hid (Value.bool true = .bool (fitB (zs.drop cap).sum)) := by show Value.bool true = .bool (fitB (zs.drop cap).sum); rw [hd]; rfl
        clear hd
        go_wp2_with fail
        refine (sum_none _ _ _).mono ?_
        rintro e w3 ⟨rfl, rfl⟩
        go_wp2_with fail
        go_meet
        case rel => exact ⟨hd1.out, hd2.out, rfl⟩
      · go_wp2_with fail
        refine (sum_lies _ (len - c) _ (zs.drop c) _ ((hl.below hbW).drop c hcl hcap _ (by rw [if_neg hcc])) (by omega) (fits_drop zs c hF)).mono ?_
        rintro e w3 ⟨rfl, rfl⟩
        go_wp2_with fail
        go_meet
        case rel => exact ⟨rfl, rfl, rfl⟩
    case rest =>
      obtain ⟨hs1, hs2, hs3⟩ := hcut
      subst hs1
      subst hs2
      subst hs3
      obtain ⟨Z, hZ0⟩ : ∃ Z, Z = (fitB (zs.take c).sum && fitB (zs.drop c).sum) := ⟨_, rfl⟩
      have hZ : Hid (Z = (fitB (zs.take c).sum && fitB (zs.drop c).sum)) := hZ0
      clear hZ0
      go_upto_region 10 with fail
      go_cut [13, 15, 71] from 34 (fun s1 s2 s3 wx => s1 = .bool (fitB (zs.take c).sum) ∧ s2 = .bool (fitB (zs.drop c).sum) ∧ s3 = .bool Z ∧ wx = wc)
      case first =>
        cases hq : fitB (zs.take c).sum
        · go_wp2_with fail
          go_meet
          case rel => exact ⟨by rw [hq], rfl, by rw [hZ.out, hq]; rfl, rfl⟩
        · cases hr : fitB (zs.drop c).sum
          · go_wp2_with fail
            go_meet
            case rel => exact ⟨by rw [hq], by rw [hr], by rw [hZ.out, hq, hr]; rfl, rfl⟩
          · go_wp2_with fail
            go_meet
            case rel => exact ⟨by rw [hq], by rw [hr], by rw [hZ.out, hq, hr]; rfl, rfl⟩
      case rest =>
       obtain ⟨hs1, hs2, hs3, hs4⟩ := hcut
       subst hs1
       subst hs2
       subst hs3
       subst hs4
       go_upto_if 71 with fail
       go_cut [13, 15] from 34 (fun _ _ wx => wx = wc)
       case first =>
        cases Z
        · go_wp2_with fail
          go_meet
          case rel => exact rfl
        · have hadd : Hid (fitN (zs.take c).sum + fitN (zs.drop c).sum = zs.sum) := by
            show fitN (zs.take c).sum + fitN (zs.drop c).sum = zs.sum
            have hz := hZ.out.symm
            rw [Bool.and_eq_true] at hz
            rw [fitN_true hz.1, fitN_true hz.2, ← List.sum_append, List.take_append_drop]
          go_wp2_with fail
          refine (add_any _ _ (fitN_bounds _).1 (fitN_bounds _).2 (fitN_bounds _).1 (fitN_bounds _).2 _).mono ?_
          rintro e w3 ⟨rfl, rfl⟩
          rw [hadd.out]
          go_wp2_with fail
          go_meet
          case rel => exact rfl
       case rest =>
        subst hcut
        clear hZ
        go_wp2_with fail
        go_loopw [18, 19, 20, 21, 22, 23] (fun v i _ _ _ _ wr => ∃ k : Nat, k ≤ len ∧ i = .int .i64 k ∧ wr.ownsRow w.heap.size 2 1 v (both zs k).length ((both zs k).map (Value.int .i64)) ∧ Below w.heap.size w wr) (fun _ i _ _ _ _ _ => len - (intOf i).toNat)
        case atStart => exact ⟨0, by omega, rfl, World.ownsRow_nil _ _ _ _, hbW⟩
        case round =>
          obtain ⟨k, hk, rfl, hown, hbel⟩ := hrel
          by_cases hkl : k < len
          · have hcell : wr.cell? ⟨bb, off + k, none⟩ = some (.int .i64 (zs.getD k 0)) := by
              have hc := hl.2.2 _ rfl k hkl
              rw [Addr.add_lit] at hc
              rw [hbel.cell (p := ⟨bb, off + k, none⟩) hlt]
              exact hc
            have hrk := hF k
            have hbl := both_length zs k (by rw [HZ.out]; omega)
            have hsub : (0 : Int) - zs[k]?.getD 0 = -(zs[k]?.getD 0) := Int.zero_sub _
            cases hf : fitB (-(zs[k]?.getD 0))
            · have hsucc : Hid (both zs (k + 1) = both zs k) := by
                show both zs (k + 1) = both zs k
                rw [both_succ zs k (by rw [HZ.out]; omega), List.getD_eq_getElem?_getD, hf]; simp
              go_wp2_with fail
              refine (neg_any _ hrk.1 hrk.2 _).mono ?_
              rintro e w6 ⟨rfl, rfl⟩
              rw [hf]
              go_wp2_with fail
              refine (sub_any _ _ (by decide) (by decide) hrk.1 hrk.2 _).mono ?_
              rintro e w6 ⟨rfl, rfl⟩
              rw [hsub, hf]
              go_wp2_with fail
              go_roundw
              case rel => exact ⟨k + 1, by omega, by go_num, by rw [hsucc.out]; exact hown, hbel⟩
              case measure => simp only [intOf]; omega
            · have hsucc : Hid (both zs (k + 1) = both zs k ++ [zs[k]?.getD 0, fitN (-(zs[k]?.getD 0))]) := by
                show both zs (k + 1) = both zs k ++ [zs[k]?.getD 0, fitN (-(zs[k]?.getD 0))]
                rw [both_succ zs k (by rw [HZ.out]; omega), List.getD_eq_getElem?_getD, hf]; simp
              go_wp2_with fail
              refine (neg_any _ hrk.1 hrk.2 _).mono ?_
              rintro e w6 ⟨rfl, rfl⟩
              rw [hf]
              go_wp2_with fail
              refine (sub_any _ _ (by decide) (by decide) hrk.1 hrk.2 _).mono ?_
              rintro e w6 ⟨rfl, rfl⟩
              rw [hsub, hf]
              go_wp2_with (at_builtin; refine wpList_append_own _ rfl (.tmp 117) (.tmp 123) 29 rfl w.heap.size 2 i0 (.int .i64 0) 1 8 Try.underlying29 hi hz0 hz1 hz2 rfl (by decide) _ _ _ rfl (hown.alloc _) ⟨w6.heap.size, 0, none⟩ 2 2 [.int .i64 (zs[k]?.getD 0), .int .i64 (fitN (-(zs[k]?.getD 0)))] rfl rfl ?c1 ?c2 ?c3 ?c4 ?c5 ?_)
              case c1 =>
                intro j u hj
                match j, hj with
                | 0, hj => simp at hj; subst hj; simp [Addr.add]
                | 1, hj => simp at hj; subst hj; simp [Addr.add]
              case c2 => intro u hu; simp at hu; rcases hu with rfl | rfl <;> rfl
              case c3 => unfold maxLen; omega
              case c4 => omega
              case c5 => have := hbel.size; simp; omega
              intro v' w7 hown' hgrow _
              have hbel' : Below w.heap.size w w7 := (hbel.alloc hbel.size _).grown hgrow (by have := hbel.size; simp; omega) (fun g hg => (hown.lt g hg).1)
              have hown2 : w7.ownsRow w.heap.size 2 1 v' (both zs (k + 1)).length ((both zs (k + 1)).map (Value.int .i64)) := by
                rw [hsucc.out, List.map_append, List.length_append]; exact hown'
              clear hown' hgrow hown hcell
              go_wp2_with fail
              go_roundw
              case rel => exact ⟨k + 1, by omega, by go_num, hown2, hbel'⟩
              case measure => simp only [intOf]; omega
          · have hke : k = len := by omega
            subst hke
            have hzs := both_sum zs k (by rw [HZ.out]; exact Nat.le_refl _)
            have hbl := both_length zs k (by rw [HZ.out]; exact Nat.le_refl _)
            have hF2 := fits_of_mem _ (both_fits zs k (by rw [HZ.out]; exact Nat.le_refl _) hF)
            have hz2s : fitN (both zs k).sum = 0 := by rw [hzs]; decide +kernel
            have hz2b : fitB (both zs k).sum = true := by rw [hzs]; decide +kernel
            obtain ⟨ao', c', hv, hL2⟩ := own_lies hown
            obtain ⟨bl, hbl2⟩ : ∃ bl, (both zs k).length = bl := ⟨_, rfl⟩
            rw [hbl2] at hv hL2 hbl
            rw [hv]
            clear hown hv hzs hbl2
            go_wp2_with fail
            refine (sum_lies _ _ _ _ _ hL2 (by omega) hF2).mono ?_
            rintro e w6 ⟨rfl, rfl⟩
            rw [hz2s, hz2b]
            go_wp2_with fail
            refine (mul_any _ _ a1 a2 b1 b2 _).mono ?_
            rintro e w6 ⟨rfl, rfl⟩
            go_wp2_with fail
            refine (muldiv_any _ _ _ a1 a2 b1 b2 (by decide) (by decide) _).mono ?_
            rintro e w6 ⟨rfl, ⟨m1, rfl⟩⟩
            rw [byN_one, byB_one]
            go_wp2_with fail
            refine (muldiv_any _ _ _ a1 a2 b1 b2 (by decide) (by decide) _).mono ?_
            rintro e w6 ⟨rfl, ⟨m2, rfl⟩⟩
            go_wp2_with fail
            refine (neg_any _ (fitN_bounds _).1 (fitN_bounds _).2 _).mono ?_
            rintro e w6 ⟨rfl, rfl⟩
            rcases hlast.out with h1 | ⟨h1, h2⟩ | ⟨h1, h2, h3, h4⟩
            all_goals
              go_wp2_with fail
              go_ret
              exact ⟨rfl, below_drewN hbel _⟩

theorem parts_walk (ao : Option Addr) (len cap : Nat) (zs : List Int) (cut a b : Int) (w : World) (h : Lies w ao len zs) (hcap : len ≤ cap) (hF : Fits zs) (t1 : -9223372036854775808 ≤ cut) (t2 : cut ≤ 9223372036854775807)
    (a1 : -9223372036854775808 ≤ a) (a2 : a ≤ 9223372036854775807) (b1 : -9223372036854775808 ≤ b) (b2 : b ≤ 9223372036854775807) :
    Calls Try.prog 7 #[.slice ao len cap, .int .i64 cut, .int .i64 a, .int .i64 b] w fun e w' => e = .returned (.bool true) ∧ Below w.heap.size w w' := by
  by_cases hbig : 67108863 < len
  · exact parts_big ao len cap cut a b w hbig
  · by_cases h0 : len = 0
    · subst h0
      by_cases ht : cut < 0
      · exact parts_none_neg ao cap cut a b w a1 a2 b1 b2 t1 t2 ht
      · exact parts_none_pos ao cap cut a b w a1 a2 b1 b2 t1 t2 (by omega)
    · obtain ⟨bb, off, rfl, hlt, _⟩ := h.addr (by omega)
      have key : ∀ T : Int, ((cut < 0 → -(cut + 1) = T) ∧ (0 ≤ cut → cut = T)) → 0 ≤ T → T ≤ 9223372036854775807 →
          Calls Try.prog 7 #[.slice (some ⟨bb, off, none⟩) len cap, .int .i64 cut, .int .i64 a, .int .i64 b] w fun e w' => e = .returned (.bool true) ∧ Below w.heap.size w w' := by
        intro T hT hT0 hTm
        have h1 : 0 ≤ T % ((len : Int) + 1) := Int.emod_nonneg _ (by omega)
        have h2 : T % ((len : Int) + 1) < (len : Int) + 1 := Int.emod_lt_of_pos _ (by omega)
        obtain ⟨c, hc⟩ := Int.eq_ofNat_of_zero_le h1
        exact parts_some bb off len cap c zs cut T a b w h hcap hlt (by omega) (by omega) hF a1 a2 b1 b2 t1 t2 hT hT0 hTm hc (by omega)
      by_cases ht : cut < 0
      · exact key (-(cut + 1)) ⟨fun _ => rfl, fun h => by omega⟩ (by omega) (by omega)
      · exact key cut ⟨fun h => by omega, fun _ => rfl⟩ (by omega) (by omega)
theorem row_cap {w : World} {a : Option Addr} {len cap : Nat} {zs : List Int} (h : (a = none ∧ len = 0 ∧ cap = 0 ∧ zs = []) ∨
    ∃ x, a = some x ∧ len ≤ cap ∧ cap ≤ maxLen ∧ zs.length = cap ∧ (∀ i, i < zs.length → w.cell? (x.add i) = some (.int .i64 (zs.getD i 0))) ∧ ∀ n ∈ zs, (Lit.int .i64 n).wf = true) : len ≤ cap := by
  rcases h with ⟨_, h1, _, _⟩ | ⟨_, _, h1, _⟩
  · omega
  · exact h1

end Go.Proofs.Ytfdnfdakejabaaa
