/-
  The document's own arena as it lies in memory; its calls that only look.
-/
import Derived.Test.YthkdmjbdcnaklaaGoes
namespace Go.Proofs.Ythkdmjbdcnaklaa
open Go.RowKit

structure Rf where
  A : Nat
  RR : Nat
  U : Nat
  V : Nat → Value

/-- What is known of the rows' numbers. -/
structure Qk (nr room : Nat) (q : Nat → List Nat) : Prop where
  nodup : ∀ i, i < nr → (q i).Nodup
  apart : ∀ i j n, i < nr → j < nr → n ∈ q i → n ∈ q j → i = j
  below : ∀ i n, i < nr → n ∈ q i → n < room
  tot : total q nr ≤ room
  nr : nr ≤ 65536
  room : room ≤ 65536
theorem RepI.qk {w : World} {p : Pl} {nr room : Nat} {q : Nat → List Nat} {th : Nat → Int} (h : RepI w p nr room q th) : Qk nr room q := by
  have hb := h.bound
  exact ⟨fun i hi => h.nodup hi, fun i j n hi hj hm hm' => h.apart hi hj hm hm', fun i n hi hm => by have := h.below hi hm; omega, by omega, by omega, by omega⟩
theorem Qk.len {nr room : Nat} {q : Nat → List Nat} (h : Qk nr room q) {i : Nat} (hi : i < nr) : (q i).length ≤ 65536 := by
  have h1 := total_ge q i nr hi
  have h2 := h.tot
  have h3 := h.room
  omega

structure RefAt (w : World) (f : Rf) (nr room : Nat) (q : Nat → List Nat) (th : Nat → Int) : Prop where
  own : w.heap[f.A]? = some (.cells #[.slice (some ⟨f.RR, 0, none⟩) nr nr, .int .i64 room, .slice (some ⟨f.U, 0, none⟩) room room] 64 (0, 0))
  rows : Row w 73 1 (.slice (some ⟨f.RR, 0, none⟩) nr nr) nr f.V
  row : ∀ i, i < nr → Row w 79 2 (f.V i) (q i).length (thF (q i) th)
  used : Row w 4 1 (.slice (some ⟨f.U, 0, none⟩) room room) room (fun j => .bool (sn q nr j))
  apart : ∀ i j, i < nr → j < nr → i ≠ j → ∀ b, (f.V i).ownBlock = some b → (f.V j).ownBlock ≠ some b

def RFoot (f : Rf) (nr : Nat) (k : Nat) : Prop := k = f.A ∨ k = f.RR ∨ k = f.U ∨ ∃ i, i < nr ∧ (f.V i).ownBlock = some k

variable {w : World} {f : Rf} {nr room : Nat} {q : Nat → List Nat} {th : Nat → Int}

theorem RefAt.a0 (h : RefAt w f nr room q th) : w.cell? ⟨f.A, 0, none⟩ = some (.slice (some ⟨f.RR, 0, none⟩) nr nr) := (own_cell h.own).1
theorem RefAt.a1 (h : RefAt w f nr room q th) : w.cell? ⟨f.A, 1, none⟩ = some (.int .i64 room) := (own_cell h.own).1
theorem RefAt.a2 (h : RefAt w f nr room q th) : w.cell? ⟨f.A, 2, none⟩ = some (.slice (some ⟨f.U, 0, none⟩) room room) := (own_cell h.own).1
theorem RefAt.ltA (h : RefAt w f nr room q th) : f.A < w.heap.size := (Array.getElem?_eq_some_iff.1 h.own).1
theorem RefAt.v (h : RefAt w f nr room q th) {i : Nat} (hi : i < nr) : w.cell? ⟨f.RR, i, none⟩ = some (f.V i) := h.rows.cell (by omega)
theorem RefAt.form (h : RefAt w f nr room q th) {i : Nat} (hi : i < nr) : ∃ ao c, f.V i = .slice ao (q i).length c ∧ (0 < (q i).length → ∃ g, ao = some ⟨g, 0, none⟩) := by
  obtain ⟨ao, c, e, h1, _⟩ := (h.row i hi).form
  exact ⟨ao, c, e, h1⟩
theorem RefAt.u (h : RefAt w f nr room q th) {n : Nat} (hn : n < room) : w.cell? ⟨f.U, n, none⟩ = some (.bool (sn q nr n)) := h.used.cell (by omega)
theorem RefAt.thing (h : RefAt w f nr room q th) {i k g c : Nat} (hi : i < nr) (hk : k < (q i).length) (hv : f.V i = .slice (some ⟨g, 0, none⟩) (q i).length c) :
    w.cell? ⟨g, k * 2, none⟩ = some (.int .i64 (nth (q i) k)) ∧ w.cell? ⟨g, k * 2 + 1, none⟩ = some (.int .i64 (th (nth (q i) k).toNat)) := by
  have := h.row i hi
  rw [hv] at this
  exact thF_cells this hk

/-- The blocks' types part them from an arena's. -/
theorem RefAt.kind (h : RefAt w f nr room q th) {k : Nat} (hk : RFoot f nr k) : ∃ c t fz, w.heap[k]? = some (.cells c t fz) ∧ (t = 64 ∨ t = 73 ∨ t = 4 ∨ t = 79) := by
  rcases hk with rfl | rfl | rfl | ⟨i, hi, hb⟩
  · exact ⟨_, _, _, h.own, .inl rfl⟩
  · obtain ⟨c, fz, e⟩ := h.rows.kind f.RR rfl
    exact ⟨_, _, _, e, .inr (.inl rfl)⟩
  · obtain ⟨c, fz, e⟩ := h.used.kind f.U rfl
    exact ⟨_, _, _, e, .inr (.inr (.inl rfl))⟩
  · obtain ⟨c, fz, e⟩ := (h.row i hi).kind k hb
    exact ⟨_, _, _, e, .inr (.inr (.inr rfl))⟩
theorem RefAt.lt (h : RefAt w f nr room q th) {k : Nat} (hk : RFoot f nr k) : k < w.heap.size := by
  obtain ⟨c, t, fz, e, _⟩ := h.kind hk
  exact (Array.getElem?_eq_some_iff.1 e).1
theorem Ar.kindOf {X : Type} {tA tC : TypeId} {enc : X → Value} {w : World} {p : Pl} {s : St X} (h : Ar tA tC enc w p s) {k : Nat} (hk : Foot p k) : ∃ c t fz, w.heap[k]? = some (.cells c t fz) ∧ (t = tA ∨ t = 61 ∨ t = tC ∨ t = 3) := by
  rcases hk with rfl | rfl | hb | hb
  · exact ⟨_, _, _, h.own, .inl rfl⟩
  · obtain ⟨c, fz, e⟩ := h.rows.kind p.R rfl
    exact ⟨_, _, _, e, .inr (.inl rfl)⟩
  · obtain ⟨c, fz, e⟩ := h.cells.kind k (by rw [ownB]; exact hb)
    exact ⟨_, _, _, e, .inr (.inr (.inl rfl))⟩
  · obtain ⟨c, fz, e⟩ := h.freed.kind k (by rw [ownB]; exact hb)
    exact ⟨_, _, _, e, .inr (.inr (.inr rfl))⟩
theorem foot_apart {p : Pl} {room' : Int} {q' : Nat → List Nat} {th' : Nat → Int} {nr' : Nat} (h : RefAt w f nr room q th) (ha : RepI w p nr' room' q' th') {k : Nat} (hk : RFoot f nr k) : ¬ Foot p k := by
  intro hk'
  obtain ⟨s, a, _⟩ := ha.ex
  obtain ⟨c, t, fz, e, ht⟩ := h.kind hk
  obtain ⟨c', t', fz', e', ht'⟩ := a.kindOf hk'
  rw [e] at e'
  simp at e'
  obtain ⟨_, rfl, _⟩ := e'
  rcases ht with rfl | rfl | rfl | rfl <;> simp at ht'
theorem foot_apartS {p : Pl} {room' : Int} {q' : Nat → List Nat} {th' : Nat → ByteArray} {nr' : Nat} (h : RefAt w f nr room q th) (ha : RepS w p nr' room' q' th') {k : Nat} (hk : RFoot f nr k) : ¬ Foot p k := by
  intro hk'
  obtain ⟨s, a, _⟩ := ha.ex
  obtain ⟨c, t, fz, e, ht⟩ := h.kind hk
  obtain ⟨c', t', fz', e', ht'⟩ := a.kindOf hk'
  rw [e] at e'
  simp at e'
  obtain ⟨_, rfl, _⟩ := e'
  rcases ht with rfl | rfl | rfl | rfl <;> simp at ht'
theorem RefAt.kps {w' : World} (h : RefAt w f nr room q th) (m : ∀ k, RFoot f nr k → w'.heap[k]? = w.heap[k]?) : RefAt w' f nr room q th :=
  ⟨(m _ (.inl rfl)).trans h.own, h.rows.of_block (fun k hk => m k (.inr (.inl (by simp [Value.ownBlock] at hk; exact hk.symm)))), fun i hi => (h.row i hi).of_block (fun k hk => m k (.inr (.inr (.inr ⟨i, hi, hk⟩)))),
    h.used.of_block (fun k hk => m k (.inr (.inr (.inl (by simp [Value.ownBlock] at hk; exact hk.symm))))), h.apart⟩
theorem RefAt.mv {w' : World} {F : Nat → Prop} (h : RefAt w f nr room q th) (m : Mv w w' F) (hF : ∀ k, RFoot f nr k → ¬ F k) : RefAt w' f nr room q th := h.kps (fun k hk => m.block k (h.lt hk) (hF k hk))
/-- The document's arena has moved on. -/
structure RStp (w : World) (f : Rf) (w' : World) (f' : Rf) (nr : Nat) : Prop where
  A : f'.A = f.A
  mv : Mv w w' (RFoot f nr)
  foot : ∀ k, RFoot f' nr k → RFoot f nr k ∨ w.heap.size ≤ k
theorem RStp.refl (w : World) (f : Rf) (nr : Nat) : RStp w f w f nr := ⟨rfl, Mv.refl _ _, fun _ h => .inl h⟩

theorem is_yes (h : RefAt w f nr room q th) {i : Nat} (hi : i < nr) : Calls Try.prog 54 #[.pointer (some ⟨f.A, 0, none⟩), .int .i64 i] w fun e w' => e = .returned (.bool true) ∧ w' = w := by
  have h0 := h.a0
  have hb : (i : Int) < (nr : Int) := by omega
  go_enter Try.func54, Try.ntmps54
  go_wp2_with fail
  go_ret
  exact ⟨rfl, rfl⟩
theorem is_no (h : RefAt w f nr room q th) {i : Int} (hi : i < 0 ∨ (nr : Int) ≤ i) : Calls Try.prog 54 #[.pointer (some ⟨f.A, 0, none⟩), .int .i64 i] w fun e w' => e = .returned (.bool false) ∧ w' = w := by
  have h0 := h.a0
  by_cases a : 0 ≤ i
  · have hb : ¬ i < (nr : Int) := by omega
    go_enter Try.func54, Try.ntmps54
    go_wp2_with fail
    go_ret
    exact ⟨rfl, rfl⟩
  · go_enter Try.func54, Try.ntmps54
    go_wp2_with fail
    go_ret
    exact ⟨rfl, rfl⟩

theorem where_no (h : RefAt w f nr room q th) {n : Int} (hn : Non nr q n) : Calls Try.prog 55 #[.pointer (some ⟨f.A, 0, none⟩), .int .i64 n] w fun e w' => e = .returned (.tuple #[.int .i64 (-1), .int .i64 (-1), .bool false]) ∧ w' = w := by
  have h1 := h.a1
  have h2 := h.a2
  by_cases a : n < 0
  · go_enter Try.func55, Try.ntmps55
    go_wp2_with fail
    go_ret3
    exact ⟨rfl, rfl⟩
  · by_cases b : (room : Int) ≤ n
    · go_enter Try.func55, Try.ntmps55
      go_wp2_with fail
      go_ret3
      exact ⟨rfl, rfl⟩
    · obtain ⟨m, rfl⟩ : ∃ m : Nat, n = m := ⟨n.toNat, by omega⟩
      have hu := h.u (n := m) (by omega)
      have hs : sn q nr m = false := by
        apply Bool.eq_false_iff.2
        intro e
        obtain ⟨i, hi, hm⟩ := (sn_iff q nr m).1 e
        exact hn i hi m rfl hm
      rw [hs] at hu
      have b' : (m : Int) < (room : Int) := by omega
      go_enter Try.func55, Try.ntmps55
      go_wp2_with fail
      go_ret3
      exact ⟨rfl, rfl⟩

set_option maxRecDepth 100000 in
set_option maxHeartbeats 1000000 in
theorem where_yes (h : RefAt w f nr room q th) (hq : Qk nr room q) {i k n : Nat} (hi : i < nr) (hk : (q i)[k]? = some n) :
    Calls Try.prog 55 #[.pointer (some ⟨f.A, 0, none⟩), .int .i64 n] w fun e w' => e = .returned (.tuple #[.int .i64 i, .int .i64 k, .bool true]) ∧ w' = w := by
  have h0 := h.a0
  have h1 := h.a1
  have h2 := h.a2
  have hm := some_mem hk
  have hnr := hq.below i n hi hm
  have hu := h.u hnr
  have hs : sn q nr n = true := (sn_iff q nr n).2 ⟨i, hi, hm⟩
  rw [hs] at hu
  have b' : (n : Int) < (room : Int) := by omega
  have b2 : ¬ (room : Int) ≤ (n : Int) := by omega
  have hkl := some_lt hk
  have hqn := hq.nr
  go_enter Try.func55, Try.ntmps55
  go_wp2_with fail
  go_loop [7, 8] (fun vr _ => ∃ r : Nat, r ≤ i ∧ vr = .int .i64 r) (fun vr _ => i + 1 - (intOf vr).toNat)
  case atStart => exact ⟨0, by omega, rfl⟩
  case round =>
    obtain ⟨r, hr, rfl⟩ := hrel
    have hrn : (r : Int) < (nr : Int) := by omega
    have hrn' : r < nr := by omega
    have hv := h.v hrn'
    obtain ⟨ao, c, hV, hat⟩ := h.form hrn'
    rw [hV] at hv
    have hlen := hq.len hrn'
    go_wp2_with fail
    go_loop [8] (fun vj => ∃ j : Nat, j ≤ (q r).length ∧ (r = i → j ≤ k) ∧ vj = .int .i64 j) (fun vj => (q r).length + 1 - (intOf vj).toNat)
    case atStart => exact ⟨0, by omega, fun _ => by omega, rfl⟩
    case round =>
      obtain ⟨j, hj, hjk, rfl⟩ := hrel
      by_cases hlt : j < (q r).length
      · obtain ⟨g, rfl⟩ := hat (by omega)
        obtain ⟨t0, _⟩ := h.thing hrn' hlt hV
        obtain ⟨m, hm', hv'⟩ := nth_lt hlt
        rw [hv'] at t0
        have hltI : (j : Int) < ((q r).length : Int) := by omega
        by_cases hmn : m = n
        · subst hmn
          have hri : r = i := hq.apart r i m hrn' hi (some_mem hm') hm
          subst hri
          obtain rfl : j = k := pos_inj (hq.nodup r hrn') hm' hk
          go_wp2_with fail
          go_ret3
          exact ⟨rfl, rfl⟩
        · have hb : ((m : Int) == (n : Int)) = false := beq_false_of_ne (by omega)
          have hjne : r = i → j + 1 ≤ k := by
            intro e
            have h1 := hjk e
            subst e
            by_cases e2 : j = k
            · subst e2; rw [hk] at hm'; exact absurd (Option.some.inj hm').symm hmn
            · omega
          go_wp2_with fail
          go_round
          case rel => exact ⟨j + 1, by omega, hjne, by go_num⟩
          case measure => simp [intOf]; omega
      · have hje : j = (q r).length := by omega
        have hri : r ≠ i := by
          intro e
          have := hjk e
          subst e
          omega
        have hltI : ¬ (j : Int) < ((q r).length : Int) := by omega
        have hr1 : r + 1 ≤ i := by omega
        clear hjk hri hje hat
        go_wp2_with fail
        go_round
        case rel => exact ⟨r + 1, hr1, by go_num⟩
        case measure => simp [intOf]; omega

end Go.Proofs.Ythkdmjbdcnaklaa
