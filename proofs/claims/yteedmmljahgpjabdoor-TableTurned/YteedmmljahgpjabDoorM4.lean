import Derived.Test.YteedmmljahgpjabDoorM3
import Derived.OpenShut
import Derived.Test.YteedmmljahgpjabDoorM2
import Derived.Deep.MidRow
import Derived.Deep.AppendLies
import Derived.Laws.AppendOwn
import Derived.Laws.AppendOwnNone
import Derived.Laws.Tables
import Derived.Laws.Rows
/-
  Numbers behind bytes: wire's Put, PutText, and the document's.
-/
namespace Go.Proofs.YteedmmljahgpjabDoor.W
open Go.RowKit

/-- The cells of a slice of numbers: nothing where there is no array. -/
def Lies (w : World) (ao : Option Addr) (len : Nat) (zs : List Int) : Prop :=
  zs.length = len ∧ (ao = none → len = 0) ∧ ∀ ad, ao = some ad → ∀ j, j < len → w.cell? (ad.add j) = some (.int .u64 (zs.getD j 0))
theorem Lies.below {w w' : World} {ao : Option Addr} {len : Nat} {zs : List Int} (h : Lies w ao len zs) (hb : Below w.heap.size w w') : Lies w' ao len zs := by
  refine ⟨h.1, h.2.1, fun ad had j hj => ?_⟩
  have hc := h.2.2 ad had j hj
  rw [hb.cell (World.block_lt_of_cell? w _ hc)]
  exact hc
/-- Where there is a number there is an array. -/
theorem Lies.addr {w : World} {ao : Option Addr} {len : Nat} {zs : List Int} (h : Lies w ao len zs) (h0 : 0 < len) :
    ∃ b off, ao = some ⟨b, off, none⟩ ∧ b < w.heap.size ∧ ∀ j, j < len → w.cell? ⟨b, off + j, none⟩ = some (.int .u64 (zs.getD j 0)) := by
  cases ao with
  | none => have := h.2.1 rfl; omega
  | some ad =>
    have hc := h.2.2 ad rfl
    obtain ⟨b, off, rfl, hc'⟩ := ints_at (zs := zs) (fun i hi => hc i (by rw [← h.1]; exact hi)) (by rw [h.1]; exact h0)
    rw [h.1] at hc'
    exact ⟨b, off, rfl, World.block_lt_of_cell? w _ (hc' 0 h0), hc'⟩
/-- Each number is one of 64 bits. -/
def Fits (zs : List Int) : Prop := ∀ j : Nat, 0 ≤ zs.getD j 0 ∧ zs.getD j 0 ≤ 18446744073709551615
/-- The numbers as plain ones. -/
def nats (zs : List Int) : List Nat := zs.map Int.toNat
theorem nats_take {zs : List Int} {k : Nat} (h : k < zs.length) : nats (zs.take (k + 1)) = nats (zs.take k) ++ [(zs.getD k 0).toNat] := by
  unfold nats
  rw [List.take_succ_eq_append_getElem h, List.map_append]
  simp [List.getD, h]
theorem nats_fit {zs : List Int} (h : Fits zs) : ∀ n ∈ nats zs, n < 18446744073709551616 := by
  intro n hn
  unfold nats at hn
  obtain ⟨z, hz, rfl⟩ := List.mem_map.1 hn
  obtain ⟨j, hj, rfl⟩ := List.mem_iff_getElem.1 hz
  have := h j
  simp only [List.getD, List.getElem?_eq_getElem hj, Option.getD_some] at this
  omega
theorem putL_take {zs : List Int} {k : Nat} (h : k < zs.length) : putL (nats (zs.take (k + 1))) = putL (nats (zs.take k)) ++ put1 (zs.getD k 0).toNat := by
  rw [nats_take h, putL_append, putL_one]
theorem putL_take_len {zs : List Int} (h : Fits zs) (k : Nat) : (putL (nats (zs.take k))).length ≤ 10 * zs.length := by
  have h1 : Fits (zs.take k) := by
    intro j
    by_cases hj : j < k
    · have e : (zs.take k).getD j 0 = zs.getD j 0 := by simp [List.getD, hj]
      rw [e]; exact h j
    · have e : (zs.take k).getD j 0 = 0 := by simp [List.getD, List.getElem?_take, hj]
      rw [e]; omega
  have h2 := putL_len _ (nats_fit h1)
  have h3 : (nats (zs.take k)).length ≤ zs.length := by unfold nats; rw [List.length_map, List.length_take]; omega
  omega
theorem up {B : Nat} {w wr : World} (h : Below B w wr) (hB : B ≤ w.heap.size) (o : Obj) : B ≤ (wr.alloc o).heap.size := by
  have h1 := h.size
  have h2 : (wr.alloc o).heap.size = wr.heap.size + 1 := by show (wr.heap.push o).size = _; simp
  omega
theorem cell_new (w : World) {x : Int} {c : UInt8} (h : x = (c.toNat : Int)) : (w.alloc (.cells #[.int .u8 x] 5)).cell? ⟨w.heap.size, 0, none⟩ = some (.int .u8 (c.toNat : Int)) := by
  rw [World.cell?_alloc_mark, ← h]
  rfl
theorem byte_low (y : Int) (h0 : 0 ≤ y) (h1 : y < 128) : ((UInt8.ofNat y.toNat).toNat : Int) = y := by rw [ofNat_small (by omega)]; omega
theorem byte_more (y : Int) (h0 : 0 ≤ y) : ((UInt8.ofNat (y.toNat % 128 + 128)).toNat : Int) = y % 128 + 128 := by rw [ofNat_small (by omega)]; omega
set_option maxHeartbeats 1000000 in
theorem put_any (s : ByteArray) (b off len cap : Nat) (zs : List Int) (w : World) (hz : zs.length = len) (hmax : s.size + 10 * len ≤ 1099511627776) (hf : Fits zs) (hb : b < w.heap.size)
    (hcell : ∀ j, j < len → w.cell? ⟨b, off + j, none⟩ = some (.int .u64 (zs.getD j 0))) :
    Calls Tryd.prog 28 #[.string s, .slice (some ⟨b, off, none⟩) len cap] w fun e w' => e = .returned (.string (bytes (s.data.toList ++ putL (nats zs)))) ∧ Below w.heap.size w w' := by
  obtain ⟨v0, w0, hconv, hbuf0, hbel0⟩ := buf_start s w
  have hsl := len_of s
  go_enter Tryd.func28, Tryd.ntmps28
  go_wp2_with fail
  go_loopw [5, 12] (fun v i wr => ∃ (k : Nat) (acc : List UInt8), k ≤ len ∧ i = .int .i64 k ∧ Buf wr w.heap.size v acc ∧ Below w.heap.size w wr ∧ Hid (acc = s.data.toList ++ putL (nats (zs.take k)))) (fun _ i _ => len - (intOf i).toNat)
  case atStart => exact ⟨0, _, Nat.zero_le _, rfl, hbuf0, hbel0, by show _ = _; rw [List.take_zero]; exact (List.append_nil _).symm⟩
  case round =>
    obtain ⟨k, acc, hk, rfl, hbuf, hbel, HA⟩ := hrel
    by_cases hlt : k < len
    · have hlt' : (k : Int) < (len : Int) := by omega
      obtain ⟨z, ez⟩ : ∃ z, z = zs.getD k 0 := ⟨_, rfl⟩
      have hz01 := hf k
      have hc := hcell k hlt
      rw [← ez] at hz01 hc
      obtain ⟨z0, z1⟩ := hz01
      have hT : Hid (acc ++ put1 z.toNat = s.data.toList ++ putL (nats (zs.take (k + 1)))) := by show _ = _; rw [HA.out, putL_take (by omega), List.append_assoc, ez]
      have hTl : (s.data.toList ++ putL (nats (zs.take (k + 1)))).length ≤ 1099511627776 := by
        have := putL_take_len hf (k + 1)
        rw [List.length_append]; omega
      obtain ⟨T, eT⟩ : ∃ T, T = s.data.toList ++ putL (nats (zs.take (k + 1))) := ⟨_, rfl⟩
      have HT : Hid (T = s.data.toList ++ putL (nats (zs.take (k + 1)))) := eT
      rw [← eT] at hT hTl
      have hcw := hbel.cell (p := ⟨b, off + k, none⟩) hb
      rw [hc] at hcw
      clear hcell hc eT ez hf
      go_wp2_with fail
      go_loopw [5, 7] (fun v t wr => ∃ (y : Int) (acc : List UInt8), 0 ≤ y ∧ y ≤ 18446744073709551615 ∧ t = .int .u64 y ∧ Buf wr w.heap.size v acc ∧ Below w.heap.size w wr ∧ Hid (acc ++ put1 y.toNat = T)) (fun _ t _ => (intOf t).toNat)
      case atStart => exact ⟨z, acc, z0, z1, rfl, hbuf, hbel, hT⟩
      case round =>
        clear hcw hbuf hbel HA hT acc
        obtain ⟨y, acc, y0, y1, rfl, hbuf, hbel, hT⟩ := hrel
        have hal : acc.length + 1 ≤ 1099511627776 := by
          have h1 := congrArg List.length hT.out
          have h2 := put1_pos y.toNat
          rw [List.length_append] at h1
          omega
        by_cases hy : y < 128
        · have hy' : ¬ 128 ≤ y := by omega
          obtain ⟨c, ec⟩ : ∃ c, c = UInt8.ofNat y.toNat := ⟨_, rfl⟩
          have hT2 : Hid (acc ++ [c] = T) := by show _ = _; rw [← hT.out, put1_small (by omega), ec]
          have hcy : y = (c.toNat : Int) := by rw [ec, byte_low y y0 hy]
          have HC : Hid (y = (c.toNat : Int)) := hcy
          clear ec hcy
          go_wp2_with (at_builtin; refine wpList_append_buf _ rfl (.tmp 27) (.tmp 30) rfl rfl (hbuf.alloc _) (up hbel (Nat.le_refl _) _) ⟨_, 0, none⟩ c rfl (cell_new _ HC.out) (by omega) ?_; intro v' w' hbuf' hbel')
          go_round
          case rel => exact ⟨k + 1, acc ++ [c], by omega, by go_num, hbuf', (hbel.alloc hbel.size _).trans hbel', by show _ = _; rw [hT2.out, HT.out]⟩
          case measure => simp [intOf]; omega
        · have hy' : 128 ≤ y := by omega
          obtain ⟨c, ec⟩ : ∃ c, c = UInt8.ofNat (y.toNat % 128 + 128) := ⟨_, rfl⟩
          have hT2 : Hid ((acc ++ [c]) ++ put1 (y / 128).toNat = T) := by
            show _ = _
            rw [← hT.out, put1_step (n := y.toNat) (by omega), ec, show (y / 128).toNat = y.toNat / 128 by omega, List.append_assoc]; rfl
          have HC : Hid (y % 128 + 128 = (c.toNat : Int)) := by show _ = _; rw [ec, byte_more y y0]
          have hand := and127 y y0 y1
          have hor := or128 (y % 128) (by omega) (by omega)
          clear ec
          go_wp2_with (at_builtin; refine wpList_append_buf _ rfl (.tmp 20) (.tmp 25) rfl rfl (hbuf.alloc _) (up hbel (Nat.le_refl _) _) ⟨_, 0, none⟩ c rfl (cell_new _ HC.out) (by omega) ?_; intro v' w' hbuf' hbel')
          go_round
          case rel => exact ⟨y / 128, acc ++ [c], by omega, by omega, by go_num, hbuf', (hbel.alloc hbel.size _).trans hbel', hT2⟩
          case measure => simp [intOf]; omega
    · have hlt' : ¬ (k : Int) < (len : Int) := by omega
      have hback := buf_string hbuf
      have HE : Hid (acc = s.data.toList ++ putL (nats zs)) := by show _ = _; rw [HA.out, List.take_of_length_le (by omega)]
      clear hcell hf hbuf0 hconv
      go_wp2_with fail
      go_ret
      exact ⟨ret1s (by rw [HE.out]), hbel⟩
set_option maxHeartbeats 1000000 in
theorem put_none (s : ByteArray) (ao : Option Addr) (cap : Nat) (w : World) :
    Calls Tryd.prog 28 #[.string s, .slice ao 0 cap] w fun e w' => e = .returned (.string s) ∧ Below w.heap.size w w' := by
  obtain ⟨v0, w0, hconv, hbuf0, hbel0⟩ := buf_start s w
  have hback := buf_string hbuf0
  have hlb : Hid (bytes s.data.toList = s) := list_bytes s
  go_enter Tryd.func28, Tryd.ntmps28
  go_wp2_with fail
  refine wp_loop_rounds 1 ?_
  rw [rounds_succ]
  go_wp2_with fail
  go_ret
  exact ⟨ret1s hlb.out, hbel0⟩
/-- wire's Put, of whatever numbers. -/
theorem put_lies (s : ByteArray) (ao : Option Addr) (len cap : Nat) (zs : List Int) (w : World) (h : Lies w ao len zs) (hmax : s.size + 10 * len ≤ 1099511627776) (hf : Fits zs) :
    Calls Tryd.prog 28 #[.string s, .slice ao len cap] w fun e w' => e = .returned (.string (bytes (s.data.toList ++ putL (nats zs)))) ∧ Below w.heap.size w w' := by
  by_cases h0 : len = 0
  · subst h0
    have hz : zs = [] := List.eq_nil_of_length_eq_zero h.1
    subst hz
    have e : bytes (s.data.toList ++ putL (nats [])) = s := by
      have : putL (nats []) = [] := rfl
      rw [this, List.append_nil, list_bytes]
    rw [e]
    exact put_none s ao cap w
  · obtain ⟨b, off, rfl, hb, hc⟩ := h.addr (by omega)
    exact put_any s b off len cap zs w h.1 hmax hf hb hc
/-- One number, laid for the call. -/
theorem one_lies (w : World) (x : Int) : Lies (w.alloc (.cells #[.int .u64 x] 98)) (some ⟨w.heap.size, 0, none⟩) 1 [x] := by
  refine ⟨rfl, (fun h => by cases h), fun ad had j hj => ?_⟩
  cases had
  obtain rfl : j = 0 := by omega
  rw [Addr.add_lit, World.cell?_alloc_mark]
  rfl
theorem one_fits {x : Int} (h0 : 0 ≤ x) (h1 : x ≤ 18446744073709551615) : Fits [x] := by
  intro j
  cases j with
  | zero => exact ⟨h0, h1⟩
  | succ j => simp [List.getD]
theorem put_one (s : ByteArray) (x : Int) (h0 : 0 ≤ x) (h1 : x ≤ 18446744073709551615) (hs : s.size ≤ 549755813888) (w : World) :
    Calls Tryd.prog 28 #[.string s, .slice (some ⟨w.heap.size, 0, none⟩) 1 1] (w.alloc (.cells #[.int .u64 x] 98)) fun e w' => e = .returned (.string (bytes (s.data.toList ++ put1 x.toNat))) ∧ Below (w.heap.size + 1) (w.alloc (.cells #[.int .u64 x] 98)) w' := by
  refine (put_lies s _ 1 1 [x] _ (one_lies w x) (by omega) (one_fits h0 h1)).mono ?_
  rintro e w' ⟨rfl, hb⟩
  refine ⟨ret1s (by rw [show nats [x] = [x.toNat] from rfl, putL_one]), ?_⟩
  have : (w.alloc (.cells #[.int .u64 x] 98)).heap.size = w.heap.size + 1 := by show (w.heap.push _).size = _; simp
  rwa [this] at hb
theorem below_one {w w' : World} {x : Int} (h : Below (w.heap.size + 1) (w.alloc (.cells #[.int .u64 x] 98)) w') : Below w.heap.size w w' :=
  ((Below.refl _ w).alloc (Nat.le_refl _) _).trans (h.mono (by omega))
/-- PutText. -/
theorem putText_any (s t : ByteArray) (hs : s.size ≤ 549755813888) (ht : t.size ≤ 549755813888) (w : World) :
    Calls Tryd.prog 23 #[.string s, .string t] w fun e w' => e = .returned (.string (bytes (s.data.toList ++ text1 t.data.toList))) ∧ Below w.heap.size w w' := by
  obtain ⟨x, hx⟩ : ∃ x : Int, x = (t.size : Int) := ⟨_, rfl⟩
  have hx0 : 0 ≤ x := by omega
  have hx1 : x ≤ 549755813888 := by omega
  obtain ⟨P, eP⟩ : ∃ P, P = bytes (s.data.toList ++ put1 x.toNat) := ⟨_, rfl⟩
  have hPs : P.size ≤ 549755813898 := by
    rw [eP, bytes_size, List.length_append, len_of]
    have := put1_ten (n := x.toNat) (by omega)
    omega
  have HR : Hid (bytes (s.data.toList ++ text1 t.data.toList) = P ++ t) := by
    show _ = _
    unfold text1
    rw [len_of, ← List.append_assoc, ← bytes_app, list_bytes, eP, hx]
    rfl
  have cP := put_one s x hx0 (by omega) (by omega) w
  rw [← eP] at cP
  have hx' := hx.symm
  clear eP hx
  go_enter Tryd.func23, Tryd.ntmps23
  go_wp2_with (go_at_call 28; refine cP.mono ?_; rintro e w1 ⟨rfl, hb1⟩)
  go_ret
  exact ⟨ret1s HR.out.symm, below_one hb1⟩
end Go.Proofs.YteedmmljahgpjabDoor.W

/-
  A number at a place: wire's Take, and the document's.
-/
namespace Go.Proofs.YteedmmljahgpjabDoor.W
open Go.RowKit

/-- What is to be answered, i bytes being read, of which x has come, at the bytes l. -/
def Goal (a : Int) (l : List UInt8) (i : Nat) (x n p e : Int) : Prop :=
  e = ((tk i l).1 : Nat) ∧ ((tk i l).1 = 0 → n = x + ((128 ^ i * (tk i l).2.2 : Nat) : Int) ∧ p = a + i + ((tk i l).2.1 : Nat)) ∧ ((tk i l).1 ≠ 0 → n = 0 ∧ p = a)
theorem goal_start (l : List UInt8) (a : Int) (h0 : 0 ≤ a) (h1 : a ≤ l.length) : Goal a (l.drop a.toNat) 0 0 (takeN l a : Nat) (takeP l a) (takeE l a : Nat) := by
  have hE := takeE_in h0 h1
  refine ⟨by rw [hE], fun h => ?_, fun h => ?_⟩
  · rw [← hE] at h
    rw [takeN_ok h, takeP_ok h]
    simp
  · rw [← hE] at h
    rw [takeN_no h, takeP_no h]
    exact ⟨rfl, rfl⟩
theorem goal_nil {a : Int} {i : Nat} {x n p e : Int} (hi : i < 10) (h : Goal a [] i x n p e) : n = 0 ∧ p = a ∧ e = 30 := by
  unfold Goal at h
  rw [tk_nil hi] at h
  obtain ⟨h1, _, h3⟩ := h
  have := h3 (by decide)
  exact ⟨this.1, this.2, h1⟩
theorem goal_ten {a : Int} {l : List UInt8} {i : Nat} {x n p e : Int} (hi : ¬ i < 10) (h : Goal a l i x n p e) : n = 0 ∧ p = a ∧ e = 31 := by
  unfold Goal at h
  rw [tk_ten hi] at h
  obtain ⟨h1, _, h3⟩ := h
  have := h3 (by decide)
  exact ⟨this.1, this.2, h1⟩
theorem goal_any {a : Int} {l : List UInt8} {i : Nat} {x y n p e : Int} (hi : ¬ i < 10) (h : Goal a l i x n p e) : Goal a l i y n p e := by
  unfold Goal at h ⊢
  rw [tk_ten hi] at h ⊢
  exact ⟨h.1, (fun hc => by cases hc), h.2.2⟩
theorem goal_bad {a : Int} {c : UInt8} {l : List UInt8} {i : Nat} {x n p e : Int} (hi : i < 10) (hc : (c.toNat : Int) < 128) (hb : endB (c.toNat : Int) (i : Int) = false) (h : Goal a (c :: l) i x n p e) : n = 0 ∧ p = a ∧ e = 31 := by
  unfold Goal at h
  unfold endB at hb
  have hb := of_decide_eq_false hb
  rw [tk_bad hi (by omega) (by omega)] at h
  obtain ⟨h1, _, h3⟩ := h
  have := h3 (by decide)
  exact ⟨this.1, this.2, h1⟩
theorem goal_end {a : Int} {c : UInt8} {l : List UInt8} {i : Nat} {x n p e : Int} (hi : i < 10) (hc : (c.toNat : Int) < 128) (hb : endB (c.toNat : Int) (i : Int) = true) (h : Goal a (c :: l) i x n p e) :
    n = x + ((128 ^ i * c.toNat : Nat) : Int) ∧ p = a + i + 1 ∧ e = 0 := by
  unfold Goal at h
  unfold endB at hb
  have hb := of_decide_eq_true hb
  rw [tk_end hi (by omega) (by omega)] at h
  obtain ⟨h1, h2, _⟩ := h
  have := h2 rfl
  exact ⟨this.1, this.2, h1⟩
theorem goal_more {a : Int} {c : UInt8} {l : List UInt8} {i : Nat} {x n p e : Int} (hi : i < 10) (hc : ¬ (c.toNat : Int) < 128) (h : Goal a (c :: l) i x n p e) :
    Goal a l (i + 1) (x + ((128 ^ i * (c.toNat % 128) : Nat) : Int)) n p e := by
  unfold Goal at h ⊢
  rw [tk_more hi (by omega)] at h
  dsimp only at h
  obtain ⟨h1, h2, h3⟩ := h
  refine ⟨h1, fun h0 => ?_, h3⟩
  obtain ⟨g1, g2⟩ := h2 h0
  refine ⟨?_, by omega⟩
  rw [g1, Nat.mul_add, Nat.pow_succ, Nat.mul_assoc]
  omega
/-- The group laid above what has come. -/
theorem or_group (x c i : Nat) (hx : x < 128 ^ i) (hc : c < 128) (hi : i < 9 ∨ (i = 9 ∧ c = 1)) :
    bits .or .u64 (x : Int) (IntKind.u64.wrap ((c : Int) * 2 ^ (7 * i))) = ((x + 128 ^ i * c : Nat) : Int) ∧ x + 128 ^ i * c < 18446744073709551616 := by
  have e128 : 128 ^ i = 2 ^ (7 * i) := by rw [Nat.pow_mul]
  have hle : 128 ^ i * c + 128 ^ i ≤ 18446744073709551616 := by
    rcases hi with h | ⟨h9, h1⟩
    · have h8 : 128 ^ i ≤ 128 ^ 8 := Nat.pow_le_pow_right (by omega) (by omega)
      have h7 : 128 ^ i * c ≤ 128 ^ 8 * 127 := Nat.mul_le_mul h8 (by omega)
      have h6 : 128 ^ 8 * 127 + 128 ^ 8 ≤ 18446744073709551616 := by decide
      omega
    · rw [h9, h1]; decide
  have hpos : 0 < 128 ^ i := Nat.pow_pos (by omega)
  have hcast : ((c : Int) * 2 ^ (7 * i)) = ((c * 2 ^ (7 * i) : Nat) : Int) := by simp
  rw [e128] at hle hx hpos ⊢
  rw [Nat.mul_comm (2 ^ (7 * i)) c] at hle ⊢
  refine ⟨?_, by omega⟩
  have hw : IntKind.u64.wrap ((c * 2 ^ (7 * i) : Nat) : Int) = ((c * 2 ^ (7 * i) : Nat) : Int) := by rw [IntKind.wrap_u64]; omega
  rw [hcast, hw, or_above x c (7 * i) hx (by omega) (by omega)]
theorem ret3 {a b c d e f : Int} (h1 : a = b) (h2 : c = d) (h3 : e = f) : Ending.returned (.tuple #[.int .u64 a, .int .i64 c, .int .i64 e]) = .returned (.tuple #[.int .u64 b, .int .i64 d, .int .i64 f]) := by rw [h1, h2, h3]
set_option maxRecDepth 100000 in
set_option maxHeartbeats 1000000 in
theorem take_in (s : ByteArray) (a : Nat) (hs : s.size ≤ 1099511627776) (ha : a ≤ s.size) (n p e : Int) (hG : Goal a (s.data.toList.drop a) 0 0 n p e) (w : World) :
    Calls Tryd.prog 58 #[.string s, .int .i64 a] w fun r w' => r = .returned (.tuple #[.int .u64 n, .int .i64 p, .int .i64 e]) ∧ w' = w := by
  have HG : Hid (Goal a (s.data.toList.drop a) 0 0 n p e) := hG
  clear hG
  have hd1 : decide ((a : Int) < 0) = false := decide_eq_false (by omega)
  have hd2 : decide ((s.size : Int) < (a : Int)) = false := decide_eq_false (by omega)
  have hd3 : decide (s.size < a) = false := decide_eq_false (by omega)
  go_enter Tryd.func58, Tryd.ntmps58
  go_wp2_with fail
  go_loop [7, 19] (fun t j => ∃ (i : Nat) (x : Int), i ≤ 10 ∧ a + i ≤ s.size ∧ 0 ≤ x ∧ x ≤ 18446744073709551615 ∧ Hid (i < 10 → x.toNat < 128 ^ i) ∧ j = .int .i64 i ∧ t = .int .u64 x ∧ Hid (Goal a (s.data.toList.drop (a + i)) i x n p e)) (fun _ j => 10 - (intOf j).toNat)
  case atStart => exact ⟨0, 0, by omega, by omega, by decide, by decide, fun _ => by decide, rfl, rfl, HG⟩
  case round =>
    obtain ⟨i, x, hi, hai, hx0, hx1, hx2, rfl, rfl, HR⟩ := hrel
    by_cases h10 : i < 10
    · have h10' : (i : Int) < 10 := by omega
      by_cases hend : a + i = s.size
      · have hend' : (a : Int) + (i : Int) = (s.size : Int) := by omega
        have HE := HR.out
        rw [drop_end s _ (by omega)] at HE
        obtain ⟨e1, e2, e3⟩ := goal_nil h10 HE
        have E1 : Hid (n = 0) := e1
        have E2 : Hid (p = a) := e2
        have E3 : Hid (e = 30) := e3
        clear HE e1 e2 e3 hx2
        go_wp2_with fail
        go_ret3
        exact ⟨ret3 E1.out.symm E2.out.symm E3.out.symm, rfl⟩
      · have hend' : ¬ (a : Int) + (i : Int) = (s.size : Int) := by omega
        have hlt : a + i < s.size := by omega
        obtain ⟨X, hor⟩ : ∃ X, bits BinOp.or IntKind.u64 x (IntKind.u64.wrap (IntKind.u64.wrap (bits BinOp.and IntKind.u8 ((s[a + i].toNat : Nat) : Int) 127) * 2 ^ (7 * i))) = X := ⟨_, rfl⟩
        have hX0 : 0 ≤ X := by rw [← hor]; exact bits_lo_u64 _ _ _
        have hX1 : X ≤ 18446744073709551615 := by rw [← hor]; exact bits_hi_u64 _ _ _
        have HX : Hid ((i < 9 ∨ (i = 9 ∧ s[a + i].toNat % 128 = 1)) → X = x + ((128 ^ i * (s[a + i].toNat % 128) : Nat) : Int) ∧ (x.toNat + 128 ^ i * (s[a + i].toNat % 128) < 18446744073709551616)) := by
          intro hh
          have hc := s[a + i].toNat_lt
          have hg := or_group x.toNat (s[a + i].toNat % 128) i (hx2.out h10) (by omega) hh
          rw [and127b _ (by omega) (by omega), show ((s[a + i].toNat : Nat) : Int) % 128 = ((s[a + i].toNat % 128 : Nat) : Int) by omega, wr64 ((s[a + i].toNat % 128 : Nat) : Int) (by omega) (by omega), show x = ((x.toNat : Nat) : Int) by omega, hg.1] at hor
          refine ⟨?_, hg.2⟩
          rw [← hor]
          omega
        have hc255 := s[a + i].toNat_lt
        have HD := HR.out
        rw [drop_at s (a + i) hlt] at HD
        by_cases hc : ((s[a + i].toNat : Nat) : Int) < 128
        · have hc' : ¬ 128 ≤ ((s[a + i].toNat : Nat) : Int) := by omega
          cases hb : endB ((s[a + i].toNat : Nat) : Int) (i : Int) with
          | false =>
            obtain ⟨e1, e2, e3⟩ := goal_bad h10 hc hb HD
            have E1 : Hid (n = 0) := e1
            have E2 : Hid (p = a) := e2
            have E3 : Hid (e = 31) := e3
            have HB : Hid (endB ((s[a + i].toNat : Nat) : Int) (i : Int) = false) := hb
            clear e1 e2 e3 hb HD
            go_wp2_with (go_at_call 73; refine (mayEnd_any _ _ (by omega) (by omega) (by omega) (by omega) _).mono ?_; rw [HB.out]; rintro e w1 ⟨rfl, rfl⟩)
            go_ret3
            exact ⟨ret3 E1.out.symm E2.out.symm E3.out.symm, rfl⟩
          | true =>
            obtain ⟨e1, e2, e3⟩ := goal_end h10 hc hb HD
            have hbb := of_decide_eq_true hb
            have E1 : Hid (n = X) := by
              show _ = _
              rw [e1]
              have := HX.out (by omega)
              rw [show s[a + i].toNat % 128 = s[a + i].toNat by omega] at this
              exact this.1.symm
            have E2 : Hid (p = a + i + 1) := e2
            have E3 : Hid (e = 0) := e3
            have HB : Hid (endB ((s[a + i].toNat : Nat) : Int) (i : Int) = true) := hb
            clear e1 e2 e3 hb HD hbb
            go_wp2_with (go_at_call 73; refine (mayEnd_any _ _ (by omega) (by omega) (by omega) (by omega) _).mono ?_; rw [HB.out]; rintro e w1 ⟨rfl, rfl⟩)
            go_ret3
            exact ⟨ret3 E1.out.symm E2.out.symm E3.out.symm, rfl⟩
        · have hc' : 128 ≤ ((s[a + i].toNat : Nat) : Int) := by omega
          have HM := goal_more h10 hc HD
          have HN : Hid (Goal a (s.data.toList.drop (a + (i + 1))) (i + 1) X n p e ∧ (i + 1 < 10 → X.toNat < 128 ^ (i + 1))) := by
            rw [← Nat.add_assoc]
            by_cases h9 : i < 9
            · have hx := HX.out (.inl h9)
              rw [hx.1]
              refine ⟨HM, fun _ => ?_⟩
              have h1 := hx2.out h10
              have h2 : 128 ^ i * (s[a + i].toNat % 128) ≤ 128 ^ i * 127 := Nat.mul_le_mul_left _ (by omega)
              rw [Nat.pow_succ]
              omega
            · exact ⟨goal_any (by omega) HM, fun h => by omega⟩
          clear HD HM
          go_wp2_with fail
          go_round
          case rel => exact ⟨i + 1, X, by omega, by omega, hX0, hX1, HN.out.2, by go_num, rfl, HN.out.1⟩
          case measure => simp [intOf]; omega
    · have h10' : ¬ (i : Int) < 10 := by omega
      obtain ⟨e1, e2, e3⟩ := goal_ten h10 HR.out
      have E1 : Hid (n = 0) := e1
      have E2 : Hid (p = a) := e2
      have E3 : Hid (e = 31) := e3
      clear e1 e2 e3 hx2
      go_wp2_with fail
      go_ret3
      exact ⟨ret3 E1.out.symm E2.out.symm E3.out.symm, rfl⟩
theorem take_any (s : ByteArray) (a : Int) (hs : s.size ≤ 1099511627776) (w : World) :
    Calls Tryd.prog 58 #[.string s, .int .i64 a] w fun r w' => r = .returned (.tuple #[.int .u64 (takeN s.data.toList a : Nat), .int .i64 (takeP s.data.toList a), .int .i64 (takeE s.data.toList a : Nat)]) ∧ w' = w := by
  have hl := len_of s
  by_cases h0 : a < 0
  · have hE : takeE s.data.toList a = 1 := takeE_arg (.inl h0)
    rw [hE, takeN_no (by rw [hE]; decide), takeP_no (by rw [hE]; decide)]
    go_enter Tryd.func58, Tryd.ntmps58
    go_wp2_with fail
    go_ret3
    exact ⟨rfl, rfl⟩
  · by_cases h1 : (s.size : Int) < a
    · have hE : takeE s.data.toList a = 1 := takeE_arg (.inr (by rw [hl]; exact h1))
      rw [hE, takeN_no (by rw [hE]; decide), takeP_no (by rw [hE]; decide)]
      go_enter Tryd.func58, Tryd.ntmps58
      go_wp2_with fail
      go_ret3
      exact ⟨rfl, rfl⟩
    · obtain ⟨k, rfl⟩ := Int.eq_ofNat_of_zero_le (show 0 ≤ a by omega)
      have hG := goal_start s.data.toList k (by omega) (by omega)
      rw [Int.toNat_natCast] at hG
      exact take_in s k hs (by omega) _ _ _ hG w
end Go.Proofs.YteedmmljahgpjabDoor.W

/-
  Tables: plain, and in memory.
-/
namespace Go.Proofs.YteedmmljahgpjabDoor
open Go.RowKit
set_option linter.unusedVariables false
def B8 (i : Int) : Prop := 0 ≤ i ∧ i ≤ 255
def U16 (i : Int) : Prop := 0 ≤ i ∧ i ≤ 65535
def I64 (i : Int) : Prop := -9223372036854775808 ≤ i ∧ i ≤ 9223372036854775807
def SzX (x : ByteArray) : Prop := x.size ≤ 140737488355328
/-- Things of n cells each, one behind the other. -/
def SlAt (w : World) (n : Nat) (a : Option Addr) (c : Nat) (vs : List (Array Value)) : Prop :=
  vs.length ≤ c ∧ c ≤ 9223372036854775807 ∧ ∀ i (hi : i < vs.length), ∃ b o, a = some ⟨b, o, none⟩ ∧ ∀ j, j < n → w.cell? ⟨b, o + i * n + j, none⟩ = vs[i][j]?
structure Sp where
  f : Int
  t : Int
structure RowM where
  k : Int
  o : Int
  i : Int
  sd : Sp
  qt : Sp
  pr : Sp
  vl : Sp
structure GdM where
  wh : Sp
  fd : Int
  rg : Int
  a : Option Addr
  c : Nat
  rs : List RowM
structure StM where
  a : Option Addr
  c : Nat
  gs : List GdM
structure InM where
  k : Int
  a : Int
structure TbM where
  x : ByteArray
  ra : Option Addr
  rc : Nat
  rs : List Int
  sl : Int
  ca : Option Addr
  cc : Nat
  cs : List Int
  da : Option Addr
  dc : Nat
  ds : List InM
  ta : Option Addr
  tc : Nat
  ts : List StM
def nvals (n : Int) : Array Value := #[.int .i64 n]
def Sp.vals (x : Sp) : Array Value := #[.int .i64 x.f, .int .i64 x.t]
def RowM.vals (r : RowM) : Array Value := #[.int .u8 r.k, .int .u8 r.o, .int .i64 r.i, .int .i64 r.sd.f, .int .i64 r.sd.t, .int .i64 r.qt.f, .int .i64 r.qt.t, .int .i64 r.pr.f, .int .i64 r.pr.t, .int .i64 r.vl.f, .int .i64 r.vl.t]
def GdM.vals (g : GdM) : Array Value := #[.int .i64 g.wh.f, .int .i64 g.wh.t, .int .u16 g.fd, .int .u16 g.rg, .slice g.a g.rs.length g.c]
def StM.vals (s : StM) : Array Value := #[.slice s.a s.gs.length s.c]
def InM.vals (x : InM) : Array Value := #[.int .u8 x.k, .int .i64 x.a]
def TbM.vals (t : TbM) : Array Value := #[.string t.x, .slice t.ra t.rs.length t.rc, .int .i64 t.sl, .slice t.ca t.cs.length t.cc, .slice t.da t.ds.length t.dc, .slice t.ta t.ts.length t.tc]
def SpI (x : Sp) : Prop := I64 x.f ∧ I64 x.t
def RowI (r : RowM) : Prop := B8 r.k ∧ B8 r.o ∧ I64 r.i ∧ SpI r.sd ∧ SpI r.qt ∧ SpI r.pr ∧ SpI r.vl
def GdL (w : World) (g : GdM) : Prop := SpI g.wh ∧ U16 g.fd ∧ U16 g.rg ∧ SlAt w 11 g.a g.c (g.rs.map RowM.vals) ∧ ∀ r ∈ g.rs, RowI r
def StL (w : World) (s : StM) : Prop := SlAt w 5 s.a s.c (s.gs.map GdM.vals) ∧ ∀ g ∈ s.gs, GdL w g
structure TbL (w : World) (t : TbM) : Prop where
  R : SlAt w 1 t.ra t.rc (t.rs.map nvals)
  Ri : ∀ n ∈ t.rs, I64 n
  S : I64 t.sl
  C : SlAt w 1 t.ca t.cc (t.cs.map nvals)
  Ci : ∀ n ∈ t.cs, I64 n
  D : SlAt w 2 t.da t.dc (t.ds.map InM.vals)
  Di : ∀ d ∈ t.ds, B8 d.k ∧ I64 d.a
  T : SlAt w 1 t.ta t.tc (t.ts.map StM.vals)
  Ti : ∀ s ∈ t.ts, StL w s
  X : SzX t.x
theorem SlAt.on {w w' : World} {n : Nat} {a : Option Addr} {c : Nat} {vs : List (Array Value)} (h : SlAt w n a c vs) (hz : ∀ x ∈ vs, n ≤ x.size) (k : Below w.heap.size w w') : SlAt w' n a c vs := by
  refine ⟨h.1, h.2.1, fun i hi => ?_⟩
  obtain ⟨b, o, h1, h2⟩ := h.2.2 i hi
  refine ⟨b, o, h1, fun j hj => ?_⟩
  have hs := hz _ (List.getElem_mem hi)
  have h3 := h2 j hj
  rw [Array.getElem?_eq_getElem (by omega)] at h3
  rw [World.cell?_of_block (k.block b (World.block_lt_of_cell? w _ h3))]
  rw [h3, Array.getElem?_eq_getElem (by omega)]
theorem mapz {α : Type} {f : α → Array Value} {n : Nat} (hf : ∀ a, (f a).size = n) (l : List α) : ∀ x ∈ l.map f, n ≤ x.size := by
  intro x hx
  obtain ⟨a, _, rfl⟩ := List.mem_map.1 hx
  rw [hf a]
  exact Nat.le_refl _
theorem nvals_sz (n : Int) : (nvals n).size = 1 := rfl
theorem Sp.sz (x : Sp) : x.vals.size = 2 := rfl
theorem RowM.sz (x : RowM) : x.vals.size = 11 := rfl
theorem GdM.sz (x : GdM) : x.vals.size = 5 := rfl
theorem StM.sz (x : StM) : x.vals.size = 1 := rfl
theorem InM.sz (x : InM) : x.vals.size = 2 := rfl
theorem TbM.sz (x : TbM) : x.vals.size = 6 := rfl
theorem GdL.on {w w' : World} {g : GdM} (h : GdL w g) (k : Below w.heap.size w w') : GdL w' g := ⟨h.1, h.2.1, h.2.2.1, h.2.2.2.1.on (mapz RowM.sz _) k, h.2.2.2.2⟩
theorem StL.on {w w' : World} {g : StM} (h : StL w g) (k : Below w.heap.size w w') : StL w' g := ⟨h.1.on (mapz GdM.sz _) k, fun x hx => (h.2 x hx).on k⟩
theorem TbL.on {w w' : World} {t : TbM} (h : TbL w t) (k : Below w.heap.size w w') : TbL w' t :=
  ⟨h.R.on (mapz nvals_sz _) k, h.Ri, h.S, h.C.on (mapz nvals_sz _) k, h.Ci, h.D.on (mapz InM.sz _) k, h.Di, h.T.on (mapz StM.sz _) k, fun x hx => (h.Ti x hx).on k, h.X⟩
theorem below2 {w w1 w2 : World} (h1 : Below w.heap.size w w1) (h2 : Below w1.heap.size w1 w2) : Below w.heap.size w w2 := h1.trans (h2.mono h1.size)
theorem Mv.ofBelow {w w' : World} {F : Nat → Prop} (h : Below w.heap.size w w') : Mv w w' F := ⟨h.os, h.tape, h.output, h.size, fun k hk _ => h.block k hk⟩
theorem below_d {w w1 : World} (h1 : Below w.heap.size w w1) (n : Nat) : Below w.heap.size w (w1.drewN n) := h1.trans ⟨rfl, rfl, rfl, Nat.le_refl _, fun _ _ => rfl⟩
theorem below_row {w V : World} (h : Below w.heap.size w V) {R : Nat} (hR : w.heap.size ≤ R) (cs : Array Value) : Below w.heap.size w (V.setRow R cs) := by
  have m : Mv w V (fun _ => False) := Mv.ofBelow h
  have hsz : (V.setRow R cs).heap.size = V.heap.size := by unfold World.setRow; simp
  have m2 : Mv w (V.setRow R cs) (fun _ => False) := ⟨m.os, m.tape, m.output, by rw [hsz]; exact m.size, fun k hk hn' => by
    rw [setRow_other _ _ _ _ (show k ≠ R by omega)]
    exact m.block k hk hn'⟩
  exact m2.below (Nat.le_refl _) (fun _ e => e.elim)
theorem size65' : (Tryd.prog.info? 48).map (·.size) = some 2 := by kernel_rfl
theorem size85' : (Tryd.prog.info? 72).map (·.size) = some 11 := by kernel_rfl
theorem size68' : (Tryd.prog.info? 51).map (·.size) = some 5 := by kernel_rfl
theorem size61' : (Tryd.prog.info? 44).map (·.size) = some 2 := by kernel_rfl
theorem size26' : (Tryd.prog.info? 26).map (·.size) = some 6 := by kernel_rfl
theorem allSp (r : Sp) : r.vals.all (·.oneCell') = true := by simp [Sp.vals, Value.oneCell']
theorem allRow (r : RowM) : r.vals.all (·.oneCell') = true := by simp [RowM.vals, Value.oneCell']
theorem allGd (r : GdM) : r.vals.all (·.oneCell') = true := by simp [GdM.vals, Value.oneCell']
theorem allIn (r : InM) : r.vals.all (·.oneCell') = true := by simp [InM.vals, Value.oneCell']
theorem allTb (r : TbM) : r.vals.all (·.oneCell') = true := by simp [TbM.vals, Value.oneCell']
-- ---------- plain
def withinB (l n m : Int) : Bool := decide (l ≤ n) && decide (n ≤ m)
def endsB (k : Int) : Bool := k == 5 || k == 6
def Sp.len (x : Sp) : Int := x.t - x.f
def orderB (r : RowM) : Bool := if r.k == 1 then decide (1 ≤ r.o) && decide (r.o ≤ 5) else r.o == 0
def idxN (sl : Int) (nr ns : Nat) (k : Int) : Int × Int :=
  if k == 1 then (0, sl) else if k == 2 then (1, sl) else if k == 3 then (1, sl) else if k == 4 then (0, (nr : Int) - 1) else if k == 5 then (0, (ns : Int) - 1) else if k == 6 then (0, 0) else (0, -1)
structure P4 where
  a : Bool
  b : Bool
  c : Bool
  d : Bool
def P4.vals (p : P4) : Array Value := #[.bool p.a, .bool p.b, .bool p.c, .bool p.d]
def partsN (k o : Int) : P4 := if k == 1 then ⟨true, true, o != 2, false⟩ else if k == 2 then ⟨false, true, true, false⟩ else if k == 4 then ⟨false, false, false, true⟩ else ⟨false, false, false, false⟩
def spV (r : RowM) : Array Value := #[.int .i64 r.sd.f, .int .i64 r.sd.t, .int .i64 r.qt.f, .int .i64 r.qt.t, .int .i64 r.pr.f, .int .i64 r.pr.t, .int .i64 r.vl.f, .int .i64 r.vl.t]
def sizesB (t : TbM) : Bool := decide ((t.rs.length : Int) ≤ 12) && withinB 0 t.sl 4 && decide ((t.cs.length : Int) ≤ 1024) && decide ((t.ds.length : Int) ≤ 4096) && withinB 1 t.ts.length 12
end Go.Proofs.YteedmmljahgpjabDoor
