/-
  The walk of the statement WireRows.
-/
import Derived.Test.YtldipdbcmehioaaLent
import Derived.Test.YtldipdbcmehioaaBack
namespace Go.Proofs.Ytldipdbcmehioaa
open Go.RowKit

/-- The cells of a slice of texts. -/
def TLies (w : World) (ao : Option Addr) (len : Nat) (S : Nat → ByteArray) : Prop :=
  (ao = none → len = 0) ∧ ∀ ad, ao = some ad → ∀ j, j < len → w.cell? (ad.add j) = some (.string (S j))
theorem TLies.addr {w : World} {ao : Option Addr} {len : Nat} {S : Nat → ByteArray} (h : TLies w ao len S) (h0 : 0 < len) :
    ∃ b off, ao = some ⟨b, off, none⟩ ∧ b < w.heap.size ∧ ∀ j, j < len → w.cell? ⟨b, off + j, none⟩ = some (.string (S j)) := by
  cases ao with
  | none => have := h.1 rfl; omega
  | some ad =>
    have hc := h.2 ad rfl
    obtain ⟨b, off, spot⟩ := ad
    have hspot : spot = none := by simpa [Addr.add] using World.cell?_spot (hc 0 h0)
    subst hspot
    refine ⟨b, off, rfl, ?_, fun j hj => by rw [← Addr.add_lit]; exact hc j hj⟩
    have := World.block_lt_of_cell? w _ (hc 0 h0)
    simpa [Addr.add] using this

/-- The numbers' places. -/
def atK (zs : List Int) (k : Nat) : Nat := (putL (nats (zs.take k))).length
theorem atK_0 (zs : List Int) : atK zs 0 = 0 := by unfold atK; rw [List.take_zero]; rfl
theorem atK_le {zs : List Int} (h : Fits zs) (k : Nat) : atK zs k ≤ 10 * zs.length := putL_take_len h k
theorem atK_all (zs : List Int) (k : Nat) (h : zs.length ≤ k) : atK zs k = (putL (nats zs)).length := by unfold atK; rw [List.take_of_length_le h]
theorem atK_succ {zs : List Int} {k : Nat} (h : k < zs.length) : atK zs (k + 1) = atK zs k + (put1 (zs.getD k 0).toNat).length := by
  unfold atK; rw [putL_take h, List.length_append]
theorem putL_split {zs : List Int} {k : Nat} (h : k < zs.length) : ∃ tail, putL (nats zs) = putL (nats (zs.take k)) ++ put1 (zs.getD k 0).toNat ++ tail := by
  refine ⟨putL (nats (zs.drop (k + 1))), ?_⟩
  rw [← putL_take h, ← putL_append]
  unfold nats
  rw [← List.map_append, List.take_append_drop]
/-- The k-th number, read at its place. -/
theorem take_kth {zs : List Int} {k : Nat} (h : k < zs.length) (hf : Fits zs) :
    takeE (putL (nats zs)) (atK zs k : Nat) = 0 ∧ takeN (putL (nats zs)) (atK zs k : Nat) = (zs.getD k 0).toNat ∧ takeP (putL (nats zs)) (atK zs k : Nat) = (atK zs (k + 1) : Nat) := by
  obtain ⟨tail, e⟩ := putL_split h
  have hz := hf k
  have := take_put (putL (nats (zs.take k))) tail (zs.getD k 0).toNat (by omega)
  rw [← e] at this
  rw [atK_succ h]
  unfold atK
  rw [List.length_append] at this
  exact this
theorem take_over (l : List UInt8) : takeE l (l.length : Nat) = 30 := by
  rw [takeE_in (by omega) (by omega), Int.toNat_natCast, List.drop_length, tk_nil (by decide)]

set_option maxRecDepth 100000 in
set_option maxHeartbeats 4000000 in
theorem rows_any (ao : Option Addr) (len cap : Nat) (zs : List Int) (at2 : Option Addr) (len2 cap2 : Nat) (S : Nat → ByteArray) (w : World) (hL : Lies w ao len zs) (hf : Fits zs) (hT : TLies w at2 len2 S)
    (hlen : len ≤ 9223372036854775807) (hlen2 : len2 ≤ 9223372036854775807) :
    Calls Try.prog 8 #[.slice ao len cap, .slice at2 len2 cap2] w fun e w' => e = .returned (.bool true) ∧ Below w.heap.size w w' := by
  have cW := works_any w
  by_cases hb1 : (len : Int) ≤ 1048576
  · have hb1' : decide (1048576 < (len : Int)) = false := decide_eq_false (by omega)
    by_cases hb2 : (len2 : Int) ≤ 65536
    · have hb2' : decide (65536 < (len2 : Int)) = false := decide_eq_false (by omega)
      have hzl := hL.1
      have hPl := putL_len (nats zs) (nats_fit hf)
      have hnl : (nats zs).length = len := by unfold nats; rw [List.length_map, hzl]
      obtain ⟨P, eP⟩ : ∃ P, P = bytes (putL (nats zs)) := ⟨_, rfl⟩
      have hPs : P.size ≤ 10485760 := by rw [eP, bytes_size]; omega
      have hP1 : P.data.toList = putL (nats zs) := by rw [eP, bytes_list]
      have c1 : ∀ w1, Below w.heap.size w w1 → Calls Try.prog 11 #[.string ⟨#[]⟩, .slice ao len cap] w1 fun e w' => e = .returned (.string P) ∧ Below w1.heap.size w1 w' := fun w1 h => by
        have := put_lies ⟨#[]⟩ ao len cap zs w1 (hL.below h) (by show 0 + 10 * len ≤ _; omega) hf
        rw [show (⟨#[]⟩ : ByteArray).data.toList = [] from rfl, List.nil_append, ← eP] at this
        exact this
      have HL : Hid (Lies w ao len zs) := hL
      have HF : Hid (Fits zs) := hf
      have HT : Hid (TLies w at2 len2 S) := hT
      have HP1 : Hid (P.data.toList = putL (nats zs)) := hP1
      have HA : Hid (∀ k, atK zs k ≤ 10485760) := fun k => by have := atK_le hf k; omega
      have HZ : Hid (zs.length = len) := hzl
      have HPs : Hid (P.size = (putL (nats zs)).length) := by show _ = _; rw [eP, bytes_size]
      clear eP hL hf hT hP1 hzl hPl hnl
      go_enter Try.func8, Try.ntmps8
      go_wp2_with fail
      refine cW.mono ?_
      rintro e w1 ⟨rfl, hbw1⟩
      go_wp2_with fail
      refine (c1 _ hbw1).mono ?_
      rintro e w2 ⟨rfl, hbw2⟩
      have hbel := below2 hbw1 hbw2
      clear c1 hbw1 hbw2
      go_wp2_with fail
      go_loop [7, 8, 9] (fun z p i => ∃ (k : Nat) (A : Int), k ≤ len ∧ 0 ≤ A ∧ A ≤ 10485760 ∧ Hid (A = (atK zs k : Nat)) ∧ i = .int .i64 k ∧ p = .int .i64 A ∧ z = .int .i64 A) (fun _ _ i => len - (intOf i).toNat)
      case atStart => exact ⟨0, 0, Nat.zero_le _, by omega, by omega, by show _ = _; rw [atK_0]; rfl, rfl, rfl, rfl⟩
      case round =>
        obtain ⟨k, A, hk, hA0, hA1, EA, rfl, rfl, rfl⟩ := hrel
        by_cases hlt : k < len
        · have hlt' : (k : Int) < (len : Int) := by omega
          obtain ⟨bb, off, rfl, hbb, hcell⟩ := HL.out.addr (by omega)
          have hkz : k < zs.length := by rw [HZ.out]; exact hlt
          obtain ⟨z, ez⟩ : ∃ z, z = zs.getD k 0 := ⟨_, rfl⟩
          have hz := HF.out k
          have hc := hbel.cell (p := ⟨bb, off + k, none⟩) hbb
          rw [hcell k hlt] at hc
          rw [← ez] at hz hc
          obtain ⟨z0, z1⟩ := hz
          obtain ⟨q, eq⟩ : ∃ q : Int, q = ((put1 z.toNat).length : Nat) := ⟨_, rfl⟩
          have hq0 : 0 ≤ q := by omega
          have hq1 : q ≤ 10 := by have := put1_ten (n := z.toNat) (by omega); omega
          have hAq : Hid (A + q = (atK zs (k + 1) : Nat)) := by show _ = _; rw [atK_succ hkz, ← ez, eq, EA.out]; omega
          have hAb : A + q ≤ 10485760 := by rw [hAq.out]; have := HA.out (k + 1); omega
          have d1 : ∀ w, Calls Try.prog 26 #[.string P, .int .i64 A] w fun e w' => e = .returned (.tuple #[.int .u64 z, .int .i64 (A + q), .int .i64 0]) ∧ w' = w := fun w => by
            have := take_any P A (by omega) w
            obtain ⟨t1, t2, t3⟩ := take_kth hkz HF.out
            rw [← EA.out] at t1 t2 t3
            rw [HP1.out, t1, t2, t3, ← ez, ← hAq.out, show ((z.toNat : Nat) : Int) = z by omega] at this
            exact this
          have d2 : ∀ w, Calls Try.prog 14 #[.int .u64 z] w fun e w' => e = .returned (.int .i64 q) ∧ w' = w := fun w => size_any z z0 z1 q eq w
          clear hcell eq ez
          go_wp2_with fail
          refine (d1 _).mono ?_
          rintro e w3 ⟨rfl, rfl⟩
          go_wp2_with fail
          refine (d2 _).mono ?_
          rintro e w3 ⟨rfl, rfl⟩
          go_wp2_with fail
          go_round
          case rel => exact ⟨k + 1, A + q, by omega, by omega, hAb, hAq, by go_num, rfl, rfl⟩
          case measure => simp [intOf]; omega
        · have hlt' : ¬ (k : Int) < (len : Int) := by omega
          have hAP : A = (P.size : Int) := by rw [EA.out, atK_all zs k (by rw [HZ.out]; omega), HPs.out]
          clear EA HL HF HA HZ HPs HP1
          subst hAP
          go_wp2_with fail
          go_loopw [6, 14] (fun v i wr => ∃ (j : Nat) (B : ByteArray), j ≤ len2 ∧ i = .int .i64 j ∧ v = .string B ∧ B.size ≤ 16842762 ∧ Below w.heap.size w wr) (fun _ i _ => len2 - (intOf i).toNat)
          case atStart => exact ⟨0, P, Nat.zero_le _, rfl, rfl, by omega, hbel⟩
          case round =>
            clear hbel
            obtain ⟨j, B, hj, rfl, rfl, hBs, hbel⟩ := hrel
            have dE : ∀ w, Calls Try.prog 26 #[.string B, .int .i64 (B.size : Nat)] w fun e w' => e = .returned (.tuple #[.int .u64 0, .int .i64 (B.size : Nat), .int .i64 30]) ∧ w' = w := fun w => by
              have := take_any B (B.size : Nat) (by omega) w
              have hE : takeE B.data.toList (B.size : Nat) = 30 := by have := take_over B.data.toList; rwa [len_of] at this
              rw [hE, takeN_no (by rw [hE]; decide), takeP_no (by rw [hE]; decide)] at this
              exact this
            by_cases hlt2 : j < len2
            · have hlt2' : (j : Int) < (len2 : Int) := by omega
              have hlt2d : decide ((j : Int) < (len2 : Int)) = true := decide_eq_true hlt2'
              by_cases hBig : (B.size : Int) < 16777216
              · have hBigd : decide ((B.size : Int) < 16777216) = true := decide_eq_true hBig
                obtain ⟨bb, off, rfl, hbb, hcell⟩ := HT.out.addr (by omega)
                have hc := hbel.cell (p := ⟨bb, off + j, none⟩) hbb
                rw [hcell j hlt2] at hc
                obtain ⟨T, eT⟩ : ∃ T, T = S j := ⟨_, rfl⟩
                rw [← eT] at hc
                clear hcell
                by_cases hTs : (T.size : Int) ≤ 65536
                · have hTs' : ¬ 65536 < (T.size : Int) := by omega
                  obtain ⟨C, eC⟩ : ∃ C, C = bytes (B.data.toList ++ text1 T.data.toList) := ⟨_, rfl⟩
                  have hBl := len_of B
                  have hTl := len_of T
                  have hCl : C.data.toList = B.data.toList ++ text1 T.data.toList := by rw [eC, bytes_list]
                  have htx := text1_size T.data.toList (by omega)
                  have hCs : C.size = B.size + (text1 T.data.toList).length := by rw [← len_of, hCl, List.length_append, hBl]
                  have hCb : C.size ≤ 16842762 := by omega
                  have hBC : B.size ≤ C.size := by omega
                  have hX : C.extract 0 B.size = B := by
                    apply ba_ext
                    rw [piece, bytes_list, hCl, List.drop_zero, Nat.sub_zero, ← hBl, List.take_left]
                  have d3 : ∀ w, Calls Try.prog 18 #[.string B, .string T] w fun e w' => e = .returned (.string C) ∧ Below w.heap.size w w' := fun w => by rw [eC]; exact putText_any B T (by omega) (by omega) w
                  have d4 : ∀ w, Calls Try.prog 28 #[.string C, .int .i64 (B.size : Nat)] w fun e w' => e = .returned (.tuple #[.string T, .int .i64 (C.size : Nat), .int .i64 0]) ∧ w' = w := fun w => by
                    have := takeText_any C (B.size : Nat) (by omega) w
                    obtain ⟨p1, p2, p3⟩ := text_put B.data.toList T.data.toList [] (by omega)
                    rw [List.append_nil, ← hCl, hBl] at p1 p2 p3
                    rw [p1, p2, p3, list_bytes, len_of] at this
                    exact this
                  clear eC eT hCl htx hCs hBl hTl dE
                  go_wp2_with fail
                  refine (d3 _).mono ?_
                  rintro e w3 ⟨rfl, hb3⟩
                  have hc3 := hb3.cell (p := ⟨bb, off + j, none⟩) (Nat.lt_of_lt_of_le hbb hbel.size)
                  rw [hc] at hc3
                  clear hc
                  go_wp2_with fail
                  refine (d4 _).mono ?_
                  rintro e w4 ⟨rfl, rfl⟩
                  go_wp2_with fail
                  go_round
                  case rel => exact ⟨j + 1, C, by omega, by go_num, rfl, hCb, below2 hbel hb3⟩
                  case measure => simp [intOf]; omega
                · have hTs' : 65536 < (T.size : Int) := by omega
                  have hTd : decide (65536 < (T.size : Int)) = true := decide_eq_true hTs'
                  clear eT hTs dE
                  go_wp2_with fail
                  go_ret
                  exact ⟨rfl, hbel⟩
              · have hBigd : decide ((B.size : Int) < 16777216) = false := decide_eq_false hBig
                go_wp2_with fail
                refine (dE _).mono ?_
                rintro e w3 ⟨rfl, rfl⟩
                go_wp2_with fail
                go_ret
                exact ⟨rfl, hbel⟩
            · have hlt2' : ¬ (j : Int) < (len2 : Int) := by omega
              have hlt2d : decide ((j : Int) < (len2 : Int)) = false := decide_eq_false hlt2'
              go_wp2_with fail
              refine (dE _).mono ?_
              rintro e w3 ⟨rfl, rfl⟩
              go_wp2_with fail
              go_ret
              exact ⟨rfl, hbel⟩
    · have hb2' : decide (65536 < (len2 : Int)) = true := decide_eq_true (by omega)
      go_enter Try.func8, Try.ntmps8
      go_wp2_with fail
      refine cW.mono ?_
      rintro e w1 ⟨rfl, hb1⟩
      go_wp2_with fail
      go_ret
      exact ⟨rfl, hb1⟩
  · have hb1' : decide (1048576 < (len : Int)) = true := decide_eq_true (by omega)
    go_enter Try.func8, Try.ntmps8
    go_wp2_with fail
    refine cW.mono ?_
    rintro e w1 ⟨rfl, hb1⟩
    go_wp2_with fail
    go_ret
    exact ⟨rfl, hb1⟩
end Go.Proofs.Ytldipdbcmehioaa
