/-
  Numbers behind bytes: wire's Put, PutText, and the document's.
-/
import Derived.Test.YtldipdbcmehioaaBuf
import Derived.OpenShut
namespace Go.Proofs.Ytldipdbcmehioaa
open Go.RowKit

/-- The cells of a slice of numbers: nothing where there is no array. -/
def Lies (w : World) (ao : Option Addr) (len : Nat) (zs : List Int) : Prop :=
  zs.length = len ∧ (ao = none → len = 0) ∧ ∀ ad, ao = some ad → ∀ j, j < len → w.cell? (ad.add j) = some (.int .u64 (zs.getD j 0))
theorem Lies.below {w w' : World} {ao : Option Addr} {len : Nat} {zs : List Int} (h : Lies w ao len zs) (hb : Below w.heap.size w w') : Lies w' ao len zs := by
  refine ⟨h.1, h.2.1, fun ad had j hj => ?_⟩
  have hc := h.2.2 ad had j hj
  rw [hb.cell (World.block_lt_of_cell? w _ hc)]
  exact hc
/-- Where there is a number there is an array. -/
theorem Lies.addr {w : World} {ao : Option Addr} {len : Nat} {zs : List Int} (h : Lies w ao len zs) (h0 : 0 < len) :
    ∃ b off, ao = some ⟨b, off, none⟩ ∧ b < w.heap.size ∧ ∀ j, j < len → w.cell? ⟨b, off + j, none⟩ = some (.int .u64 (zs.getD j 0)) := by
  cases ao with
  | none => have := h.2.1 rfl; omega
  | some ad =>
    have hc := h.2.2 ad rfl
    obtain ⟨b, off, rfl, hc'⟩ := ints_at (zs := zs) (fun i hi => hc i (by rw [← h.1]; exact hi)) (by rw [h.1]; exact h0)
    rw [h.1] at hc'
    exact ⟨b, off, rfl, World.block_lt_of_cell? w _ (hc' 0 h0), hc'⟩
/-- Each number is one of 64 bits. -/
def Fits (zs : List Int) : Prop := ∀ j : Nat, 0 ≤ zs.getD j 0 ∧ zs.getD j 0 ≤ 18446744073709551615
/-- The numbers as plain ones. -/
def nats (zs : List Int) : List Nat := zs.map Int.toNat
theorem nats_take {zs : List Int} {k : Nat} (h : k < zs.length) : nats (zs.take (k + 1)) = nats (zs.take k) ++ [(zs.getD k 0).toNat] := by
  unfold nats
  rw [List.take_succ_eq_append_getElem h, List.map_append]
  simp [List.getD, h]
theorem nats_fit {zs : List Int} (h : Fits zs) : ∀ n ∈ nats zs, n < 18446744073709551616 := by
  intro n hn
  unfold nats at hn
  obtain ⟨z, hz, rfl⟩ := List.mem_map.1 hn
  obtain ⟨j, hj, rfl⟩ := List.mem_iff_getElem.1 hz
  have := h j
  simp only [List.getD, List.getElem?_eq_getElem hj, Option.getD_some] at this
  omega
theorem putL_take {zs : List Int} {k : Nat} (h : k < zs.length) : putL (nats (zs.take (k + 1))) = putL (nats (zs.take k)) ++ put1 (zs.getD k 0).toNat := by
  rw [nats_take h, putL_append, putL_one]
theorem putL_take_len {zs : List Int} (h : Fits zs) (k : Nat) : (putL (nats (zs.take k))).length ≤ 10 * zs.length := by
  have h1 : Fits (zs.take k) := by
    intro j
    by_cases hj : j < k
    · have e : (zs.take k).getD j 0 = zs.getD j 0 := by simp [List.getD, hj]
      rw [e]; exact h j
    · have e : (zs.take k).getD j 0 = 0 := by simp [List.getD, List.getElem?_take, hj]
      rw [e]; omega
  have h2 := putL_len _ (nats_fit h1)
  have h3 : (nats (zs.take k)).length ≤ zs.length := by unfold nats; rw [List.length_map, List.length_take]; omega
  omega

theorem up {B : Nat} {w wr : World} (h : Below B w wr) (hB : B ≤ w.heap.size) (o : Obj) : B ≤ (wr.alloc o).heap.size := by
  have h1 := h.size
  have h2 : (wr.alloc o).heap.size = wr.heap.size + 1 := by show (wr.heap.push o).size = _; simp
  omega
theorem cell_new (w : World) {x : Int} {c : UInt8} (h : x = (c.toNat : Int)) : (w.alloc (.cells #[.int .u8 x] 5)).cell? ⟨w.heap.size, 0, none⟩ = some (.int .u8 (c.toNat : Int)) := by
  rw [World.cell?_alloc_mark, ← h]
  rfl
theorem byte_low (y : Int) (h0 : 0 ≤ y) (h1 : y < 128) : ((UInt8.ofNat y.toNat).toNat : Int) = y := by rw [ofNat_small (by omega)]; omega
theorem byte_more (y : Int) (h0 : 0 ≤ y) : ((UInt8.ofNat (y.toNat % 128 + 128)).toNat : Int) = y % 128 + 128 := by rw [ofNat_small (by omega)]; omega

set_option maxHeartbeats 1000000 in
theorem put_any (s : ByteArray) (b off len cap : Nat) (zs : List Int) (w : World) (hz : zs.length = len) (hmax : s.size + 10 * len ≤ 1099511627776) (hf : Fits zs) (hb : b < w.heap.size)
    (hcell : ∀ j, j < len → w.cell? ⟨b, off + j, none⟩ = some (.int .u64 (zs.getD j 0))) :
    Calls Try.prog 11 #[.string s, .slice (some ⟨b, off, none⟩) len cap] w fun e w' => e = .returned (.string (bytes (s.data.toList ++ putL (nats zs)))) ∧ Below w.heap.size w w' := by
  obtain ⟨v0, w0, hconv, hbuf0, hbel0⟩ := buf_start s w
  have hsl := len_of s
  go_enter Try.func11, Try.ntmps11
  go_wp2_with fail
  go_loopw [5, 12] (fun v i wr => ∃ (k : Nat) (acc : List UInt8), k ≤ len ∧ i = .int .i64 k ∧ Buf wr w.heap.size v acc ∧ Below w.heap.size w wr ∧ Hid (acc = s.data.toList ++ putL (nats (zs.take k)))) (fun _ i _ => len - (intOf i).toNat)
  case atStart => exact ⟨0, _, Nat.zero_le _, rfl, hbuf0, hbel0, by show _ = _; rw [List.take_zero]; exact (List.append_nil _).symm⟩
  case round =>
    obtain ⟨k, acc, hk, rfl, hbuf, hbel, HA⟩ := hrel
    by_cases hlt : k < len
    · have hlt' : (k : Int) < (len : Int) := by omega
      obtain ⟨z, ez⟩ : ∃ z, z = zs.getD k 0 := ⟨_, rfl⟩
      have hz01 := hf k
      have hc := hcell k hlt
      rw [← ez] at hz01 hc
      obtain ⟨z0, z1⟩ := hz01
      have hT : Hid (acc ++ put1 z.toNat = s.data.toList ++ putL (nats (zs.take (k + 1)))) := by show _ = _; rw [HA.out, putL_take (by omega), List.append_assoc, ez]
      have hTl : (s.data.toList ++ putL (nats (zs.take (k + 1)))).length ≤ 1099511627776 := by
        have := putL_take_len hf (k + 1)
        rw [List.length_append]; omega
      obtain ⟨T, eT⟩ : ∃ T, T = s.data.toList ++ putL (nats (zs.take (k + 1))) := ⟨_, rfl⟩
      have HT : Hid (T = s.data.toList ++ putL (nats (zs.take (k + 1)))) := eT
      rw [← eT] at hT hTl
      have hcw := hbel.cell (p := ⟨b, off + k, none⟩) hb
      rw [hc] at hcw
      clear hcell hc eT ez hf
      go_wp2_with fail
      go_loopw [5, 7] (fun v t wr => ∃ (y : Int) (acc : List UInt8), 0 ≤ y ∧ y ≤ 18446744073709551615 ∧ t = .int .u64 y ∧ Buf wr w.heap.size v acc ∧ Below w.heap.size w wr ∧ Hid (acc ++ put1 y.toNat = T)) (fun _ t _ => (intOf t).toNat)
      case atStart => exact ⟨z, acc, z0, z1, rfl, hbuf, hbel, hT⟩
      case round =>
        clear hcw hbuf hbel HA hT acc
        obtain ⟨y, acc, y0, y1, rfl, hbuf, hbel, hT⟩ := hrel
        have hal : acc.length + 1 ≤ 1099511627776 := by
          have h1 := congrArg List.length hT.out
          have h2 := put1_pos y.toNat
          rw [List.length_append] at h1
          omega
        by_cases hy : y < 128
        · have hy' : ¬ 128 ≤ y := by omega
          obtain ⟨c, ec⟩ : ∃ c, c = UInt8.ofNat y.toNat := ⟨_, rfl⟩
          have hT2 : Hid (acc ++ [c] = T) := by show _ = _; rw [← hT.out, put1_small (by omega), ec]
          have hcy : y = (c.toNat : Int) := by rw [ec, byte_low y y0 hy]
          have HC : Hid (y = (c.toNat : Int)) := hcy
          clear ec hcy
          go_wp2_with (at_builtin; refine wpList_append_buf _ rfl (.tmp 27) (.tmp 30) rfl rfl (hbuf.alloc _) (up hbel (Nat.le_refl _) _) ⟨_, 0, none⟩ c rfl (cell_new _ HC.out) (by omega) ?_; intro v' w' hbuf' hbel')
          go_round
          case rel => exact ⟨k + 1, acc ++ [c], by omega, by go_num, hbuf', (hbel.alloc hbel.size _).trans hbel', by show _ = _; rw [hT2.out, HT.out]⟩
          case measure => simp [intOf]; omega
        · have hy' : 128 ≤ y := by omega
          obtain ⟨c, ec⟩ : ∃ c, c = UInt8.ofNat (y.toNat % 128 + 128) := ⟨_, rfl⟩
          have hT2 : Hid ((acc ++ [c]) ++ put1 (y / 128).toNat = T) := by
            show _ = _
            rw [← hT.out, put1_step (n := y.toNat) (by omega), ec, show (y / 128).toNat = y.toNat / 128 by omega, List.append_assoc]; rfl
          have HC : Hid (y % 128 + 128 = (c.toNat : Int)) := by show _ = _; rw [ec, byte_more y y0]
          have hand := and127 y y0 y1
          have hor := or128 (y % 128) (by omega) (by omega)
          clear ec
          go_wp2_with (at_builtin; refine wpList_append_buf _ rfl (.tmp 20) (.tmp 25) rfl rfl (hbuf.alloc _) (up hbel (Nat.le_refl _) _) ⟨_, 0, none⟩ c rfl (cell_new _ HC.out) (by omega) ?_; intro v' w' hbuf' hbel')
          go_round
          case rel => exact ⟨y / 128, acc ++ [c], by omega, by omega, by go_num, hbuf', (hbel.alloc hbel.size _).trans hbel', hT2⟩
          case measure => simp [intOf]; omega
    · have hlt' : ¬ (k : Int) < (len : Int) := by omega
      have hback := buf_string hbuf
      have HE : Hid (acc = s.data.toList ++ putL (nats zs)) := by show _ = _; rw [HA.out, List.take_of_length_le (by omega)]
      clear hcell hf hbuf0 hconv
      go_wp2_with fail
      go_ret
      exact ⟨ret1s (by rw [HE.out]), hbel⟩

set_option maxHeartbeats 1000000 in
theorem put_none (s : ByteArray) (ao : Option Addr) (cap : Nat) (w : World) :
    Calls Try.prog 11 #[.string s, .slice ao 0 cap] w fun e w' => e = .returned (.string s) ∧ Below w.heap.size w w' := by
  obtain ⟨v0, w0, hconv, hbuf0, hbel0⟩ := buf_start s w
  have hback := buf_string hbuf0
  have hlb : Hid (bytes s.data.toList = s) := list_bytes s
  go_enter Try.func11, Try.ntmps11
  go_wp2_with fail
  refine wp_loop_rounds 1 ?_
  rw [rounds_succ]
  go_wp2_with fail
  go_ret
  exact ⟨ret1s hlb.out, hbel0⟩

/-- wire's Put, of whatever numbers. -/
theorem put_lies (s : ByteArray) (ao : Option Addr) (len cap : Nat) (zs : List Int) (w : World) (h : Lies w ao len zs) (hmax : s.size + 10 * len ≤ 1099511627776) (hf : Fits zs) :
    Calls Try.prog 11 #[.string s, .slice ao len cap] w fun e w' => e = .returned (.string (bytes (s.data.toList ++ putL (nats zs)))) ∧ Below w.heap.size w w' := by
  by_cases h0 : len = 0
  · subst h0
    have hz : zs = [] := List.eq_nil_of_length_eq_zero h.1
    subst hz
    have e : bytes (s.data.toList ++ putL (nats [])) = s := by
      have : putL (nats []) = [] := rfl
      rw [this, List.append_nil, list_bytes]
    rw [e]
    exact put_none s ao cap w
  · obtain ⟨b, off, rfl, hb, hc⟩ := h.addr (by omega)
    exact put_any s b off len cap zs w h.1 hmax hf hb hc

/-- One byte as a text. -/
theorem conv1 (x : Int) (c : UInt8) (hx : x = c.toNat) (w : World) :
    (convert 46 9 (.slice (some ⟨w.heap.size, 0, none⟩) 1 1)).run Try.prog (w.alloc (.cells #[.int .u8 x] 5)) = .ok (.string ⟨#[c]⟩) (w.alloc (.cells #[.int .u8 x] 5)) := by
  have := run_convert_bytes_back (P := Try.prog) (w.alloc (.cells #[.int .u8 x] 5)) 46 9 5 ⟨w.heap.size, 0, none⟩ 1 [c] Try.underlying46 Try.underlying5 Try.underlying9 (fun j hj => by
    obtain rfl : j = 0 := by simp at hj; exact hj
    rw [hx]
    exact World.cell?_alloc_mark w _ _ _ _)
  exact this
theorem app1 (A : ByteArray) (c : UInt8) : (A ++ (⟨#[c]⟩ : ByteArray)).data.toList = A.data.toList ++ [c] := by simp
theorem app1_size (A : ByteArray) (c : UInt8) : (A ++ (⟨#[c]⟩ : ByteArray)).size = A.size + 1 := by rw [← len_of, app1, List.length_append, len_of]; rfl

set_option maxHeartbeats 1000000 in
theorem rput_any (s : ByteArray) (b off len cap : Nat) (zs : List Int) (w : World) (hz : zs.length = len) (hmax : s.size + 10 * len ≤ 1099511627776) (hf : Fits zs) (hb : b < w.heap.size)
    (hcell : ∀ j, j < len → w.cell? ⟨b, off + j, none⟩ = some (.int .u64 (zs.getD j 0))) :
    Calls Try.prog 13 #[.string s, .slice (some ⟨b, off, none⟩) len cap] w fun e w' => e = .returned (.string (bytes (s.data.toList ++ putL (nats zs)))) ∧ Below w.heap.size w w' := by
  have hsl := len_of s
  go_enter Try.func13, Try.ntmps13
  go_wp2_with fail
  go_loopw [0, 5] (fun v i wr => ∃ (k : Nat) (A : ByteArray), k ≤ len ∧ i = .int .i64 k ∧ v = .string A ∧ Below w.heap.size w wr ∧ Hid (A.data.toList = s.data.toList ++ putL (nats (zs.take k)))) (fun _ i _ => len - (intOf i).toNat)
  case atStart => exact ⟨0, s, Nat.zero_le _, rfl, rfl, Below.refl _ _, by show _ = _; rw [List.take_zero]; exact (List.append_nil _).symm⟩
  case round =>
    obtain ⟨k, A, hk, rfl, rfl, hbel, HA⟩ := hrel
    by_cases hlt : k < len
    · have hlt' : (k : Int) < (len : Int) := by omega
      obtain ⟨z, ez⟩ : ∃ z, z = zs.getD k 0 := ⟨_, rfl⟩
      have hz01 := hf k
      have hc := hcell k hlt
      rw [← ez] at hz01 hc
      obtain ⟨z0, z1⟩ := hz01
      have hT : Hid (A.data.toList ++ put1 z.toNat = s.data.toList ++ putL (nats (zs.take (k + 1)))) := by show _ = _; rw [HA.out, putL_take (by omega), List.append_assoc, ez]
      have hTl : (s.data.toList ++ putL (nats (zs.take (k + 1)))).length ≤ 1099511627776 := by
        have := putL_take_len hf (k + 1)
        rw [List.length_append]; omega
      obtain ⟨T, eT⟩ : ∃ T, T = s.data.toList ++ putL (nats (zs.take (k + 1))) := ⟨_, rfl⟩
      have HT : Hid (T = s.data.toList ++ putL (nats (zs.take (k + 1)))) := eT
      rw [← eT] at hT hTl
      have hcw := hbel.cell (p := ⟨b, off + k, none⟩) hb
      rw [hc] at hcw
      clear hcell hc eT ez hf
      go_wp2_with fail
      go_loopw [0, 6] (fun v t wr => ∃ (y : Int) (A : ByteArray), 0 ≤ y ∧ y ≤ 18446744073709551615 ∧ t = .int .u64 y ∧ v = .string A ∧ Below w.heap.size w wr ∧ Hid (A.data.toList ++ put1 y.toNat = T)) (fun _ t _ => (intOf t).toNat)
      case atStart => exact ⟨z, A, z0, z1, rfl, rfl, hbel, hT⟩
      case round =>
        clear hcw hbel HA hT
        obtain ⟨y, A, y0, y1, rfl, rfl, hbel, hT⟩ := hrel
        have hal : A.size ≤ 1099511627776 := by
          have h1 := congrArg List.length hT.out
          rw [List.length_append, len_of] at h1
          omega
        by_cases hy : y < 128
        · have hy' : ¬ 128 ≤ y := by omega
          obtain ⟨c, ec⟩ : ∃ c, c = UInt8.ofNat y.toNat := ⟨_, rfl⟩
          have hT2 : Hid ((A ++ (⟨#[c]⟩ : ByteArray)).data.toList = T) := by show _ = _; rw [app1, ← hT.out, put1_small (by omega), ec]
          have hcv := conv1 y c (by rw [ec, byte_low y y0 hy])
          clear ec
          go_wp2_with fail
          go_round
          case rel => exact ⟨k + 1, _, by omega, by go_num, rfl, hbel.alloc hbel.size _, by show _ = _; rw [← HT.out]; exact hT2.out⟩
          case measure => simp [intOf]; omega
        · have hy' : 128 ≤ y := by omega
          obtain ⟨c, ec⟩ : ∃ c, c = UInt8.ofNat (y.toNat % 128 + 128) := ⟨_, rfl⟩
          have hT2 : Hid ((A ++ (⟨#[c]⟩ : ByteArray)).data.toList ++ put1 (y / 128).toNat = T) := by
            show _ = _
            rw [app1, ← hT.out, put1_step (n := y.toNat) (by omega), ec, show (y / 128).toNat = y.toNat / 128 by omega, List.append_assoc]; rfl
          have hcv := conv1 (y % 128 + 128) c (by rw [ec, byte_more y y0])
          clear ec
          go_wp2_with fail
          go_round
          case rel => exact ⟨y / 128, _, by omega, by omega, by go_num, rfl, hbel.alloc hbel.size _, hT2⟩
          case measure => simp [intOf]; omega
    · have hlt' : ¬ (k : Int) < (len : Int) := by omega
      have HE : Hid (A = bytes (s.data.toList ++ putL (nats zs))) := by show _ = _; apply ba_ext; rw [bytes_list, HA.out, List.take_of_length_le (by omega)]
      clear hcell hf
      go_wp2_with fail
      go_ret
      exact ⟨ret1s HE.out, hbel⟩

set_option maxHeartbeats 1000000 in
theorem rput_none (s : ByteArray) (ao : Option Addr) (cap : Nat) (w : World) :
    Calls Try.prog 13 #[.string s, .slice ao 0 cap] w fun e w' => e = .returned (.string s) ∧ Below w.heap.size w w' := by
  go_enter Try.func13, Try.ntmps13
  go_wp2_with fail
  refine wp_loop_rounds 1 ?_
  rw [rounds_succ]
  go_wp2_with fail
  go_ret
  exact ⟨rfl, Below.refl _ _⟩

/-- The document's Put, of whatever numbers. -/
theorem rput_lies (s : ByteArray) (ao : Option Addr) (len cap : Nat) (zs : List Int) (w : World) (h : Lies w ao len zs) (hmax : s.size + 10 * len ≤ 1099511627776) (hf : Fits zs) :
    Calls Try.prog 13 #[.string s, .slice ao len cap] w fun e w' => e = .returned (.string (bytes (s.data.toList ++ putL (nats zs)))) ∧ Below w.heap.size w w' := by
  by_cases h0 : len = 0
  · subst h0
    have hz : zs = [] := List.eq_nil_of_length_eq_zero h.1
    subst hz
    have e : bytes (s.data.toList ++ putL (nats [])) = s := by
      have : putL (nats []) = [] := rfl
      rw [this, List.append_nil, list_bytes]
    rw [e]
    exact rput_none s ao cap w
  · obtain ⟨b, off, rfl, hb, hc⟩ := h.addr (by omega)
    exact rput_any s b off len cap zs w h.1 hmax hf hb hc

/-- One number, laid for the call. -/
theorem one_lies (w : World) (x : Int) : Lies (w.alloc (.cells #[.int .u64 x] 29)) (some ⟨w.heap.size, 0, none⟩) 1 [x] := by
  refine ⟨rfl, (fun h => by cases h), fun ad had j hj => ?_⟩
  cases had
  obtain rfl : j = 0 := by omega
  rw [Addr.add_lit, World.cell?_alloc_mark]
  rfl
theorem one_fits {x : Int} (h0 : 0 ≤ x) (h1 : x ≤ 18446744073709551615) : Fits [x] := by
  intro j
  cases j with
  | zero => exact ⟨h0, h1⟩
  | succ j => simp [List.getD]
theorem put_one (s : ByteArray) (x : Int) (h0 : 0 ≤ x) (h1 : x ≤ 18446744073709551615) (hs : s.size ≤ 549755813888) (w : World) :
    Calls Try.prog 11 #[.string s, .slice (some ⟨w.heap.size, 0, none⟩) 1 1] (w.alloc (.cells #[.int .u64 x] 29)) fun e w' => e = .returned (.string (bytes (s.data.toList ++ put1 x.toNat))) ∧ Below (w.heap.size + 1) (w.alloc (.cells #[.int .u64 x] 29)) w' := by
  refine (put_lies s _ 1 1 [x] _ (one_lies w x) (by omega) (one_fits h0 h1)).mono ?_
  rintro e w' ⟨rfl, hb⟩
  refine ⟨ret1s (by rw [show nats [x] = [x.toNat] from rfl, putL_one]), ?_⟩
  have : (w.alloc (.cells #[.int .u64 x] 29)).heap.size = w.heap.size + 1 := by show (w.heap.push _).size = _; simp
  rwa [this] at hb
theorem rput_one (s : ByteArray) (x : Int) (h0 : 0 ≤ x) (h1 : x ≤ 18446744073709551615) (hs : s.size ≤ 549755813888) (w : World) :
    Calls Try.prog 13 #[.string s, .slice (some ⟨w.heap.size, 0, none⟩) 1 1] (w.alloc (.cells #[.int .u64 x] 29)) fun e w' => e = .returned (.string (bytes (s.data.toList ++ put1 x.toNat))) ∧ Below (w.heap.size + 1) (w.alloc (.cells #[.int .u64 x] 29)) w' := by
  refine (rput_lies s _ 1 1 [x] _ (one_lies w x) (by omega) (one_fits h0 h1)).mono ?_
  rintro e w' ⟨rfl, hb⟩
  refine ⟨ret1s (by rw [show nats [x] = [x.toNat] from rfl, putL_one]), ?_⟩
  have : (w.alloc (.cells #[.int .u64 x] 29)).heap.size = w.heap.size + 1 := by show (w.heap.push _).size = _; simp
  rwa [this] at hb
theorem below_one {w w' : World} {x : Int} (h : Below (w.heap.size + 1) (w.alloc (.cells #[.int .u64 x] 29)) w') : Below w.heap.size w w' :=
  ((Below.refl _ w).alloc (Nat.le_refl _) _).trans (h.mono (by omega))

/-- PutText. -/
theorem putText_any (s t : ByteArray) (hs : s.size ≤ 549755813888) (ht : t.size ≤ 549755813888) (w : World) :
    Calls Try.prog 18 #[.string s, .string t] w fun e w' => e = .returned (.string (bytes (s.data.toList ++ text1 t.data.toList))) ∧ Below w.heap.size w w' := by
  obtain ⟨x, hx⟩ : ∃ x : Int, x = (t.size : Int) := ⟨_, rfl⟩
  have hx0 : 0 ≤ x := by omega
  have hx1 : x ≤ 549755813888 := by omega
  obtain ⟨P, eP⟩ : ∃ P, P = bytes (s.data.toList ++ put1 x.toNat) := ⟨_, rfl⟩
  have hPs : P.size ≤ 549755813898 := by
    rw [eP, bytes_size, List.length_append, len_of]
    have := put1_ten (n := x.toNat) (by omega)
    omega
  have HR : Hid (bytes (s.data.toList ++ text1 t.data.toList) = P ++ t) := by
    show _ = _
    unfold text1
    rw [len_of, ← List.append_assoc, ← bytes_app, list_bytes, eP, hx]
    rfl
  have cP := put_one s x hx0 (by omega) (by omega) w
  rw [← eP] at cP
  have hx' := hx.symm
  clear eP hx
  go_enter Try.func18, Try.ntmps18
  go_wp2_with (go_at_call 11; refine cP.mono ?_; rintro e w1 ⟨rfl, hb1⟩)
  go_ret
  exact ⟨ret1s HR.out.symm, below_one hb1⟩
theorem rputText_any (s t : ByteArray) (hs : s.size ≤ 549755813888) (ht : t.size ≤ 549755813888) (w : World) :
    Calls Try.prog 19 #[.string s, .string t] w fun e w' => e = .returned (.string (bytes (s.data.toList ++ text1 t.data.toList))) ∧ Below w.heap.size w w' := by
  obtain ⟨x, hx⟩ : ∃ x : Int, x = (t.size : Int) := ⟨_, rfl⟩
  have hx0 : 0 ≤ x := by omega
  have hx1 : x ≤ 549755813888 := by omega
  obtain ⟨P, eP⟩ : ∃ P, P = bytes (s.data.toList ++ put1 x.toNat) := ⟨_, rfl⟩
  have hPs : P.size ≤ 549755813898 := by
    rw [eP, bytes_size, List.length_append, len_of]
    have := put1_ten (n := x.toNat) (by omega)
    omega
  have HR : Hid (bytes (s.data.toList ++ text1 t.data.toList) = P ++ t) := by
    show _ = _
    unfold text1
    rw [len_of, ← List.append_assoc, ← bytes_app, list_bytes, eP, hx]
    rfl
  have cP := rput_one s x hx0 (by omega) (by omega) w
  rw [← eP] at cP
  have hx' := hx.symm
  clear eP hx
  go_enter Try.func19, Try.ntmps19
  go_wp2_with (go_at_call 13; refine cP.mono ?_; rintro e w1 ⟨rfl, hb1⟩)
  go_ret
  exact ⟨ret1s HR.out.symm, below_one hb1⟩
/-- A number by itself, the document's. -/
theorem rone_any (x : Int) (h0 : 0 ≤ x) (h1 : x ≤ 18446744073709551615) (w : World) :
    Calls Try.prog 15 #[.int .u64 x] w fun e w' => e = .returned (.string (bytes (put1 x.toNat))) ∧ Below w.heap.size w w' := by
  have cP := rput_one ⟨#[]⟩ x h0 h1 (by decide) w
  go_enter Try.func15, Try.ntmps15
  go_wp2_with (go_at_call 13; refine cP.mono ?_; rintro e w1 ⟨rfl, hb1⟩)
  go_ret
  exact ⟨rfl, below_one hb1⟩
end Go.Proofs.Ytldipdbcmehioaa
