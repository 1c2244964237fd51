import Derived.Test.YteedmmljahgpjabGreatDoorM3
import Derived.Test.YteedmmljahgpjabGreatDoorM2
import Derived.Deep.MidRow
import Derived.Deep.AppendLies
import Derived.Laws.AppendOwn
import Derived.Laws.AppendOwnNone
import Derived.Laws.Tables
import Derived.Laws.Rows
/-
  A number at a place: wire's Take, and the document's.
-/
namespace Go.Proofs.YteedmmljahgpjabGreatDoor.W
open Go.RowKit

/-- What is to be answered, i bytes being read, of which x has come, at the bytes l. -/
def Goal (a : Int) (l : List UInt8) (i : Nat) (x n p e : Int) : Prop :=
  e = ((tk i l).1 : Nat) ∧ ((tk i l).1 = 0 → n = x + ((128 ^ i * (tk i l).2.2 : Nat) : Int) ∧ p = a + i + ((tk i l).2.1 : Nat)) ∧ ((tk i l).1 ≠ 0 → n = 0 ∧ p = a)
theorem goal_start (l : List UInt8) (a : Int) (h0 : 0 ≤ a) (h1 : a ≤ l.length) : Goal a (l.drop a.toNat) 0 0 (takeN l a : Nat) (takeP l a) (takeE l a : Nat) := by
  have hE := takeE_in h0 h1
  refine ⟨by rw [hE], fun h => ?_, fun h => ?_⟩
  · rw [← hE] at h
    rw [takeN_ok h, takeP_ok h]
    simp
  · rw [← hE] at h
    rw [takeN_no h, takeP_no h]
    exact ⟨rfl, rfl⟩
theorem goal_nil {a : Int} {i : Nat} {x n p e : Int} (hi : i < 10) (h : Goal a [] i x n p e) : n = 0 ∧ p = a ∧ e = 30 := by
  unfold Goal at h
  rw [tk_nil hi] at h
  obtain ⟨h1, _, h3⟩ := h
  have := h3 (by decide)
  exact ⟨this.1, this.2, h1⟩
theorem goal_ten {a : Int} {l : List UInt8} {i : Nat} {x n p e : Int} (hi : ¬ i < 10) (h : Goal a l i x n p e) : n = 0 ∧ p = a ∧ e = 31 := by
  unfold Goal at h
  rw [tk_ten hi] at h
  obtain ⟨h1, _, h3⟩ := h
  have := h3 (by decide)
  exact ⟨this.1, this.2, h1⟩
theorem goal_any {a : Int} {l : List UInt8} {i : Nat} {x y n p e : Int} (hi : ¬ i < 10) (h : Goal a l i x n p e) : Goal a l i y n p e := by
  unfold Goal at h ⊢
  rw [tk_ten hi] at h ⊢
  exact ⟨h.1, (fun hc => by cases hc), h.2.2⟩
theorem goal_bad {a : Int} {c : UInt8} {l : List UInt8} {i : Nat} {x n p e : Int} (hi : i < 10) (hc : (c.toNat : Int) < 128) (hb : endB (c.toNat : Int) (i : Int) = false) (h : Goal a (c :: l) i x n p e) : n = 0 ∧ p = a ∧ e = 31 := by
  unfold Goal at h
  unfold endB at hb
  have hb := of_decide_eq_false hb
  rw [tk_bad hi (by omega) (by omega)] at h
  obtain ⟨h1, _, h3⟩ := h
  have := h3 (by decide)
  exact ⟨this.1, this.2, h1⟩
theorem goal_end {a : Int} {c : UInt8} {l : List UInt8} {i : Nat} {x n p e : Int} (hi : i < 10) (hc : (c.toNat : Int) < 128) (hb : endB (c.toNat : Int) (i : Int) = true) (h : Goal a (c :: l) i x n p e) :
    n = x + ((128 ^ i * c.toNat : Nat) : Int) ∧ p = a + i + 1 ∧ e = 0 := by
  unfold Goal at h
  unfold endB at hb
  have hb := of_decide_eq_true hb
  rw [tk_end hi (by omega) (by omega)] at h
  obtain ⟨h1, h2, _⟩ := h
  have := h2 rfl
  exact ⟨this.1, this.2, h1⟩
theorem goal_more {a : Int} {c : UInt8} {l : List UInt8} {i : Nat} {x n p e : Int} (hi : i < 10) (hc : ¬ (c.toNat : Int) < 128) (h : Goal a (c :: l) i x n p e) :
    Goal a l (i + 1) (x + ((128 ^ i * (c.toNat % 128) : Nat) : Int)) n p e := by
  unfold Goal at h ⊢
  rw [tk_more hi (by omega)] at h
  dsimp only at h
  obtain ⟨h1, h2, h3⟩ := h
  refine ⟨h1, fun h0 => ?_, h3⟩
  obtain ⟨g1, g2⟩ := h2 h0
  refine ⟨?_, by omega⟩
  rw [g1, Nat.mul_add, Nat.pow_succ, Nat.mul_assoc]
  omega
/-- The group laid above what has come. -/
theorem or_group (x c i : Nat) (hx : x < 128 ^ i) (hc : c < 128) (hi : i < 9 ∨ (i = 9 ∧ c = 1)) :
    bits .or .u64 (x : Int) (IntKind.u64.wrap ((c : Int) * 2 ^ (7 * i))) = ((x + 128 ^ i * c : Nat) : Int) ∧ x + 128 ^ i * c < 18446744073709551616 := by
  have e128 : 128 ^ i = 2 ^ (7 * i) := by rw [Nat.pow_mul]
  have hle : 128 ^ i * c + 128 ^ i ≤ 18446744073709551616 := by
    rcases hi with h | ⟨h9, h1⟩
    · have h8 : 128 ^ i ≤ 128 ^ 8 := Nat.pow_le_pow_right (by omega) (by omega)
      have h7 : 128 ^ i * c ≤ 128 ^ 8 * 127 := Nat.mul_le_mul h8 (by omega)
      have h6 : 128 ^ 8 * 127 + 128 ^ 8 ≤ 18446744073709551616 := by decide
      omega
    · rw [h9, h1]; decide
  have hpos : 0 < 128 ^ i := Nat.pow_pos (by omega)
  have hcast : ((c : Int) * 2 ^ (7 * i)) = ((c * 2 ^ (7 * i) : Nat) : Int) := by simp
  rw [e128] at hle hx hpos ⊢
  rw [Nat.mul_comm (2 ^ (7 * i)) c] at hle ⊢
  refine ⟨?_, by omega⟩
  have hw : IntKind.u64.wrap ((c * 2 ^ (7 * i) : Nat) : Int) = ((c * 2 ^ (7 * i) : Nat) : Int) := by rw [IntKind.wrap_u64]; omega
  rw [hcast, hw, or_above x c (7 * i) hx (by omega) (by omega)]
theorem ret3 {a b c d e f : Int} (h1 : a = b) (h2 : c = d) (h3 : e = f) : Ending.returned (.tuple #[.int .u64 a, .int .i64 c, .int .i64 e]) = .returned (.tuple #[.int .u64 b, .int .i64 d, .int .i64 f]) := by rw [h1, h2, h3]
set_option maxRecDepth 100000 in
set_option maxHeartbeats 1000000 in
theorem take_in (s : ByteArray) (a : Nat) (hs : s.size ≤ 1099511627776) (ha : a ≤ s.size) (n p e : Int) (hG : Goal a (s.data.toList.drop a) 0 0 n p e) (w : World) :
    Calls Tryz.prog 70 #[.string s, .int .i64 a] w fun r w' => r = .returned (.tuple #[.int .u64 n, .int .i64 p, .int .i64 e]) ∧ w' = w := by
  have HG : Hid (Goal a (s.data.toList.drop a) 0 0 n p e) := hG
  clear hG
  have hd1 : decide ((a : Int) < 0) = false := decide_eq_false (by omega)
  have hd2 : decide ((s.size : Int) < (a : Int)) = false := decide_eq_false (by omega)
  have hd3 : decide (s.size < a) = false := decide_eq_false (by omega)
  go_enter Tryz.func70, Tryz.ntmps70
  go_wp2_with fail
  go_loop [7, 19] (fun t j => ∃ (i : Nat) (x : Int), i ≤ 10 ∧ a + i ≤ s.size ∧ 0 ≤ x ∧ x ≤ 18446744073709551615 ∧ Hid (i < 10 → x.toNat < 128 ^ i) ∧ j = .int .i64 i ∧ t = .int .u64 x ∧ Hid (Goal a (s.data.toList.drop (a + i)) i x n p e)) (fun _ j => 10 - (intOf j).toNat)
  case atStart => exact ⟨0, 0, by omega, by omega, by decide, by decide, fun _ => by decide, rfl, rfl, HG⟩
  case round =>
    obtain ⟨i, x, hi, hai, hx0, hx1, hx2, rfl, rfl, HR⟩ := hrel
    by_cases h10 : i < 10
    · have h10' : (i : Int) < 10 := by omega
      by_cases hend : a + i = s.size
      · have hend' : (a : Int) + (i : Int) = (s.size : Int) := by omega
        have HE := HR.out
        rw [drop_end s _ (by omega)] at HE
        obtain ⟨e1, e2, e3⟩ := goal_nil h10 HE
        have E1 : Hid (n = 0) := e1
        have E2 : Hid (p = a) := e2
        have E3 : Hid (e = 30) := e3
        clear HE e1 e2 e3 hx2
        go_wp2_with fail
        go_ret3
        exact ⟨ret3 E1.out.symm E2.out.symm E3.out.symm, rfl⟩
      · have hend' : ¬ (a : Int) + (i : Int) = (s.size : Int) := by omega
        have hlt : a + i < s.size := by omega
        obtain ⟨X, hor⟩ : ∃ X, bits BinOp.or IntKind.u64 x (IntKind.u64.wrap (IntKind.u64.wrap (bits BinOp.and IntKind.u8 ((s[a + i].toNat : Nat) : Int) 127) * 2 ^ (7 * i))) = X := ⟨_, rfl⟩
        have hX0 : 0 ≤ X := by rw [← hor]; exact bits_lo_u64 _ _ _
        have hX1 : X ≤ 18446744073709551615 := by rw [← hor]; exact bits_hi_u64 _ _ _
        have HX : Hid ((i < 9 ∨ (i = 9 ∧ s[a + i].toNat % 128 = 1)) → X = x + ((128 ^ i * (s[a + i].toNat % 128) : Nat) : Int) ∧ (x.toNat + 128 ^ i * (s[a + i].toNat % 128) < 18446744073709551616)) := by
          intro hh
          have hc := s[a + i].toNat_lt
          have hg := or_group x.toNat (s[a + i].toNat % 128) i (hx2.out h10) (by omega) hh
          rw [and127b _ (by omega) (by omega), show ((s[a + i].toNat : Nat) : Int) % 128 = ((s[a + i].toNat % 128 : Nat) : Int) by omega, wr64 ((s[a + i].toNat % 128 : Nat) : Int) (by omega) (by omega), show x = ((x.toNat : Nat) : Int) by omega, hg.1] at hor
          refine ⟨?_, hg.2⟩
          rw [← hor]
          omega
        have hc255 := s[a + i].toNat_lt
        have HD := HR.out
        rw [drop_at s (a + i) hlt] at HD
        by_cases hc : ((s[a + i].toNat : Nat) : Int) < 128
        · have hc' : ¬ 128 ≤ ((s[a + i].toNat : Nat) : Int) := by omega
          cases hb : endB ((s[a + i].toNat : Nat) : Int) (i : Int) with
          | false =>
            obtain ⟨e1, e2, e3⟩ := goal_bad h10 hc hb HD
            have E1 : Hid (n = 0) := e1
            have E2 : Hid (p = a) := e2
            have E3 : Hid (e = 31) := e3
            have HB : Hid (endB ((s[a + i].toNat : Nat) : Int) (i : Int) = false) := hb
            clear e1 e2 e3 hb HD
            go_wp2_with (go_at_call 90; refine (mayEnd_any _ _ (by omega) (by omega) (by omega) (by omega) _).mono ?_; rw [HB.out]; rintro e w1 ⟨rfl, rfl⟩)
            go_ret3
            exact ⟨ret3 E1.out.symm E2.out.symm E3.out.symm, rfl⟩
          | true =>
            obtain ⟨e1, e2, e3⟩ := goal_end h10 hc hb HD
            have hbb := of_decide_eq_true hb
            have E1 : Hid (n = X) := by
              show _ = _
              rw [e1]
              have := HX.out (by omega)
              rw [show s[a + i].toNat % 128 = s[a + i].toNat by omega] at this
              exact this.1.symm
            have E2 : Hid (p = a + i + 1) := e2
            have E3 : Hid (e = 0) := e3
            have HB : Hid (endB ((s[a + i].toNat : Nat) : Int) (i : Int) = true) := hb
            clear e1 e2 e3 hb HD hbb
            go_wp2_with (go_at_call 90; refine (mayEnd_any _ _ (by omega) (by omega) (by omega) (by omega) _).mono ?_; rw [HB.out]; rintro e w1 ⟨rfl, rfl⟩)
            go_ret3
            exact ⟨ret3 E1.out.symm E2.out.symm E3.out.symm, rfl⟩
        · have hc' : 128 ≤ ((s[a + i].toNat : Nat) : Int) := by omega
          have HM := goal_more h10 hc HD
          have HN : Hid (Goal a (s.data.toList.drop (a + (i + 1))) (i + 1) X n p e ∧ (i + 1 < 10 → X.toNat < 128 ^ (i + 1))) := by
            rw [← Nat.add_assoc]
            by_cases h9 : i < 9
            · have hx := HX.out (.inl h9)
              rw [hx.1]
              refine ⟨HM, fun _ => ?_⟩
              have h1 := hx2.out h10
              have h2 : 128 ^ i * (s[a + i].toNat % 128) ≤ 128 ^ i * 127 := Nat.mul_le_mul_left _ (by omega)
              rw [Nat.pow_succ]
              omega
            · exact ⟨goal_any (by omega) HM, fun h => by omega⟩
          clear HD HM
          go_wp2_with fail
          go_round
          case rel => exact ⟨i + 1, X, by omega, by omega, hX0, hX1, HN.out.2, by go_num, rfl, HN.out.1⟩
          case measure => simp [intOf]; omega
    · have h10' : ¬ (i : Int) < 10 := by omega
      obtain ⟨e1, e2, e3⟩ := goal_ten h10 HR.out
      have E1 : Hid (n = 0) := e1
      have E2 : Hid (p = a) := e2
      have E3 : Hid (e = 31) := e3
      clear e1 e2 e3 hx2
      go_wp2_with fail
      go_ret3
      exact ⟨ret3 E1.out.symm E2.out.symm E3.out.symm, rfl⟩
theorem take_any (s : ByteArray) (a : Int) (hs : s.size ≤ 1099511627776) (w : World) :
    Calls Tryz.prog 70 #[.string s, .int .i64 a] w fun r w' => r = .returned (.tuple #[.int .u64 (takeN s.data.toList a : Nat), .int .i64 (takeP s.data.toList a), .int .i64 (takeE s.data.toList a : Nat)]) ∧ w' = w := by
  have hl := len_of s
  by_cases h0 : a < 0
  · have hE : takeE s.data.toList a = 1 := takeE_arg (.inl h0)
    rw [hE, takeN_no (by rw [hE]; decide), takeP_no (by rw [hE]; decide)]
    go_enter Tryz.func70, Tryz.ntmps70
    go_wp2_with fail
    go_ret3
    exact ⟨rfl, rfl⟩
  · by_cases h1 : (s.size : Int) < a
    · have hE : takeE s.data.toList a = 1 := takeE_arg (.inr (by rw [hl]; exact h1))
      rw [hE, takeN_no (by rw [hE]; decide), takeP_no (by rw [hE]; decide)]
      go_enter Tryz.func70, Tryz.ntmps70
      go_wp2_with fail
      go_ret3
      exact ⟨rfl, rfl⟩
    · obtain ⟨k, rfl⟩ := Int.eq_ofNat_of_zero_le (show 0 ≤ a by omega)
      have hG := goal_start s.data.toList k (by omega) (by omega)
      rw [Int.toNat_natCast] at hG
      exact take_in s k hs (by omega) _ _ _ hG w
end Go.Proofs.YteedmmljahgpjabGreatDoor.W

/-
  Tables: plain, and in memory.
-/
namespace Go.Proofs.YteedmmljahgpjabGreatDoor
open Go.RowKit
set_option linter.unusedVariables false
def B8 (i : Int) : Prop := 0 ≤ i ∧ i ≤ 255
def U16 (i : Int) : Prop := 0 ≤ i ∧ i ≤ 65535
def I64 (i : Int) : Prop := -9223372036854775808 ≤ i ∧ i ≤ 9223372036854775807
def SzX (x : ByteArray) : Prop := x.size ≤ 140737488355328
/-- Things of n cells each, one behind the other. -/
def SlAt (w : World) (n : Nat) (a : Option Addr) (c : Nat) (vs : List (Array Value)) : Prop :=
  vs.length ≤ c ∧ c ≤ 9223372036854775807 ∧ ∀ i (hi : i < vs.length), ∃ b o, a = some ⟨b, o, none⟩ ∧ ∀ j, j < n → w.cell? ⟨b, o + i * n + j, none⟩ = vs[i][j]?
structure Sp where
  f : Int
  t : Int
structure RowM where
  k : Int
  o : Int
  i : Int
  sd : Sp
  qt : Sp
  pr : Sp
  vl : Sp
structure GdM where
  wh : Sp
  fd : Int
  rg : Int
  a : Option Addr
  c : Nat
  rs : List RowM
structure StM where
  a : Option Addr
  c : Nat
  gs : List GdM
structure InM where
  k : Int
  a : Int
structure TbM where
  x : ByteArray
  ra : Option Addr
  rc : Nat
  rs : List Int
  sl : Int
  ca : Option Addr
  cc : Nat
  cs : List Int
  da : Option Addr
  dc : Nat
  ds : List InM
  ta : Option Addr
  tc : Nat
  ts : List StM
def nvals (n : Int) : Array Value := #[.int .i64 n]
def Sp.vals (x : Sp) : Array Value := #[.int .i64 x.f, .int .i64 x.t]
def RowM.vals (r : RowM) : Array Value := #[.int .u8 r.k, .int .u8 r.o, .int .i64 r.i, .int .i64 r.sd.f, .int .i64 r.sd.t, .int .i64 r.qt.f, .int .i64 r.qt.t, .int .i64 r.pr.f, .int .i64 r.pr.t, .int .i64 r.vl.f, .int .i64 r.vl.t]
def GdM.vals (g : GdM) : Array Value := #[.int .i64 g.wh.f, .int .i64 g.wh.t, .int .u16 g.fd, .int .u16 g.rg, .slice g.a g.rs.length g.c]
def StM.vals (s : StM) : Array Value := #[.slice s.a s.gs.length s.c]
def InM.vals (x : InM) : Array Value := #[.int .u8 x.k, .int .i64 x.a]
def TbM.vals (t : TbM) : Array Value := #[.string t.x, .slice t.ra t.rs.length t.rc, .int .i64 t.sl, .slice t.ca t.cs.length t.cc, .slice t.da t.ds.length t.dc, .slice t.ta t.ts.length t.tc]
def SpI (x : Sp) : Prop := I64 x.f ∧ I64 x.t
def RowI (r : RowM) : Prop := B8 r.k ∧ B8 r.o ∧ I64 r.i ∧ SpI r.sd ∧ SpI r.qt ∧ SpI r.pr ∧ SpI r.vl
def GdL (w : World) (g : GdM) : Prop := SpI g.wh ∧ U16 g.fd ∧ U16 g.rg ∧ SlAt w 11 g.a g.c (g.rs.map RowM.vals) ∧ ∀ r ∈ g.rs, RowI r
def StL (w : World) (s : StM) : Prop := SlAt w 5 s.a s.c (s.gs.map GdM.vals) ∧ ∀ g ∈ s.gs, GdL w g
structure TbL (w : World) (t : TbM) : Prop where
  R : SlAt w 1 t.ra t.rc (t.rs.map nvals)
  Ri : ∀ n ∈ t.rs, I64 n
  S : I64 t.sl
  C : SlAt w 1 t.ca t.cc (t.cs.map nvals)
  Ci : ∀ n ∈ t.cs, I64 n
  D : SlAt w 2 t.da t.dc (t.ds.map InM.vals)
  Di : ∀ d ∈ t.ds, B8 d.k ∧ I64 d.a
  T : SlAt w 1 t.ta t.tc (t.ts.map StM.vals)
  Ti : ∀ s ∈ t.ts, StL w s
  X : SzX t.x
theorem SlAt.on {w w' : World} {n : Nat} {a : Option Addr} {c : Nat} {vs : List (Array Value)} (h : SlAt w n a c vs) (hz : ∀ x ∈ vs, n ≤ x.size) (k : Below w.heap.size w w') : SlAt w' n a c vs := by
  refine ⟨h.1, h.2.1, fun i hi => ?_⟩
  obtain ⟨b, o, h1, h2⟩ := h.2.2 i hi
  refine ⟨b, o, h1, fun j hj => ?_⟩
  have hs := hz _ (List.getElem_mem hi)
  have h3 := h2 j hj
  rw [Array.getElem?_eq_getElem (by omega)] at h3
  rw [World.cell?_of_block (k.block b (World.block_lt_of_cell? w _ h3))]
  rw [h3, Array.getElem?_eq_getElem (by omega)]
theorem mapz {α : Type} {f : α → Array Value} {n : Nat} (hf : ∀ a, (f a).size = n) (l : List α) : ∀ x ∈ l.map f, n ≤ x.size := by
  intro x hx
  obtain ⟨a, _, rfl⟩ := List.mem_map.1 hx
  rw [hf a]
  exact Nat.le_refl _
theorem nvals_sz (n : Int) : (nvals n).size = 1 := rfl
theorem Sp.sz (x : Sp) : x.vals.size = 2 := rfl
theorem RowM.sz (x : RowM) : x.vals.size = 11 := rfl
theorem GdM.sz (x : GdM) : x.vals.size = 5 := rfl
theorem StM.sz (x : StM) : x.vals.size = 1 := rfl
theorem InM.sz (x : InM) : x.vals.size = 2 := rfl
theorem TbM.sz (x : TbM) : x.vals.size = 6 := rfl
theorem GdL.on {w w' : World} {g : GdM} (h : GdL w g) (k : Below w.heap.size w w') : GdL w' g := ⟨h.1, h.2.1, h.2.2.1, h.2.2.2.1.on (mapz RowM.sz _) k, h.2.2.2.2⟩
theorem StL.on {w w' : World} {g : StM} (h : StL w g) (k : Below w.heap.size w w') : StL w' g := ⟨h.1.on (mapz GdM.sz _) k, fun x hx => (h.2 x hx).on k⟩
theorem TbL.on {w w' : World} {t : TbM} (h : TbL w t) (k : Below w.heap.size w w') : TbL w' t :=
  ⟨h.R.on (mapz nvals_sz _) k, h.Ri, h.S, h.C.on (mapz nvals_sz _) k, h.Ci, h.D.on (mapz InM.sz _) k, h.Di, h.T.on (mapz StM.sz _) k, fun x hx => (h.Ti x hx).on k, h.X⟩
theorem below2 {w w1 w2 : World} (h1 : Below w.heap.size w w1) (h2 : Below w1.heap.size w1 w2) : Below w.heap.size w w2 := h1.trans (h2.mono h1.size)
theorem Mv.ofBelow {w w' : World} {F : Nat → Prop} (h : Below w.heap.size w w') : Mv w w' F := ⟨h.os, h.tape, h.output, h.size, fun k hk _ => h.block k hk⟩
theorem below_d {w w1 : World} (h1 : Below w.heap.size w w1) (n : Nat) : Below w.heap.size w (w1.drewN n) := h1.trans ⟨rfl, rfl, rfl, Nat.le_refl _, fun _ _ => rfl⟩
theorem below_row {w V : World} (h : Below w.heap.size w V) {R : Nat} (hR : w.heap.size ≤ R) (cs : Array Value) : Below w.heap.size w (V.setRow R cs) := by
  have m : Mv w V (fun _ => False) := Mv.ofBelow h
  have hsz : (V.setRow R cs).heap.size = V.heap.size := by unfold World.setRow; simp
  have m2 : Mv w (V.setRow R cs) (fun _ => False) := ⟨m.os, m.tape, m.output, by rw [hsz]; exact m.size, fun k hk hn' => by
    rw [setRow_other _ _ _ _ (show k ≠ R by omega)]
    exact m.block k hk hn'⟩
  exact m2.below (Nat.le_refl _) (fun _ e => e.elim)
theorem size65' : (Tryz.prog.info? 46).map (·.size) = some 2 := by kernel_rfl
theorem size85' : (Tryz.prog.info? 66).map (·.size) = some 11 := by kernel_rfl
theorem size68' : (Tryz.prog.info? 49).map (·.size) = some 5 := by kernel_rfl
theorem size61' : (Tryz.prog.info? 42).map (·.size) = some 2 := by kernel_rfl
theorem size26' : (Tryz.prog.info? 27).map (·.size) = some 6 := by kernel_rfl
theorem allSp (r : Sp) : r.vals.all (·.oneCell') = true := by simp [Sp.vals, Value.oneCell']
theorem allRow (r : RowM) : r.vals.all (·.oneCell') = true := by simp [RowM.vals, Value.oneCell']
theorem allGd (r : GdM) : r.vals.all (·.oneCell') = true := by simp [GdM.vals, Value.oneCell']
theorem allIn (r : InM) : r.vals.all (·.oneCell') = true := by simp [InM.vals, Value.oneCell']
theorem allTb (r : TbM) : r.vals.all (·.oneCell') = true := by simp [TbM.vals, Value.oneCell']
-- ---------- plain
def withinB (l n m : Int) : Bool := decide (l ≤ n) && decide (n ≤ m)
def endsB (k : Int) : Bool := k == 5 || k == 6
def Sp.len (x : Sp) : Int := x.t - x.f
def orderB (r : RowM) : Bool := if r.k == 1 then decide (1 ≤ r.o) && decide (r.o ≤ 5) else r.o == 0
def idxN (sl : Int) (nr ns : Nat) (k : Int) : Int × Int :=
  if k == 1 then (0, sl) else if k == 2 then (1, sl) else if k == 3 then (1, sl) else if k == 4 then (0, (nr : Int) - 1) else if k == 5 then (0, (ns : Int) - 1) else if k == 6 then (0, 0) else (0, -1)
structure P4 where
  a : Bool
  b : Bool
  c : Bool
  d : Bool
def P4.vals (p : P4) : Array Value := #[.bool p.a, .bool p.b, .bool p.c, .bool p.d]
def partsN (k o : Int) : P4 := if k == 1 then ⟨true, true, o != 2, false⟩ else if k == 2 then ⟨false, true, true, false⟩ else if k == 4 then ⟨false, false, false, true⟩ else ⟨false, false, false, false⟩
def spV (r : RowM) : Array Value := #[.int .i64 r.sd.f, .int .i64 r.sd.t, .int .i64 r.qt.f, .int .i64 r.qt.t, .int .i64 r.pr.f, .int .i64 r.pr.t, .int .i64 r.vl.f, .int .i64 r.vl.t]
def sizesB (t : TbM) : Bool := decide ((t.rs.length : Int) ≤ 12) && withinB 0 t.sl 4 && decide ((t.cs.length : Int) ≤ 1024) && decide ((t.ds.length : Int) ≤ 4096) && withinB 1 t.ts.length 12
end Go.Proofs.YteedmmljahgpjabGreatDoor

/-
  The program's table: what it asks of a row, of numbers.
-/
namespace Go.Proofs.YteedmmljahgpjabGreatDoor
open Go.RowKit
set_option linter.unusedVariables false
set_option linter.unusedSimpArgs false
set_option maxRecDepth 100000 in
set_option maxHeartbeats 4000000 in
theorem within_any (l n m : Int) (w : World) : Calls Tryz.prog 66 #[.int .i64 l, .int .i64 n, .int .i64 m] w fun e w' => e = .returned (.bool (withinB l n m)) ∧ w' = w := by
  unfold withinB
  cases h1 : decide (l ≤ n) with
  | true =>
    go_enter Tryz.func66, Tryz.ntmps66
    go_wp2_with fail
    go_ret
    exact ⟨rfl, rfl⟩
  | false =>
    go_enter Tryz.func66, Tryz.ntmps66
    go_wp2_with fail
    go_ret
    exact ⟨rfl, rfl⟩
set_option maxRecDepth 100000 in
set_option maxHeartbeats 4000000 in
theorem ends_any (k : Int) (w : World) : Calls Tryz.prog 68 #[.int .u8 k] w fun e w' => e = .returned (.bool (endsB k)) ∧ w' = w := by
  unfold endsB
  cases h1 : (k == 5) with
  | true =>
    go_enter Tryz.func68, Tryz.ntmps68
    go_wp2_with fail
    go_ret
    exact ⟨rfl, rfl⟩
  | false =>
    go_enter Tryz.func68, Tryz.ntmps68
    go_wp2_with fail
    go_ret
    exact ⟨rfl, rfl⟩
set_option maxRecDepth 100000 in
set_option maxHeartbeats 4000000 in
theorem length_any (x : Sp) (h : I64 x.len) (w : World) : Calls Tryz.prog 44 #[.agg x.vals] w fun e w' => e = .returned (.int .i64 x.len) ∧ Below w.heap.size w w' := by
  have hb1 := below_new w (.cells x.vals 46)
  have hn1 := heap_new w (.cells x.vals 46)
  obtain ⟨W1, e1⟩ : ∃ W, w.alloc (.cells x.vals 46) = W := ⟨_, rfl⟩
  have E1 : Hid (w.alloc (.cells x.vals 46) = W1) := e1
  rw [e1] at hb1 hn1
  have HB1 : Hid (Below w.heap.size w W1) := hb1
  have c0 : W1.cell? ⟨w.heap.size, 0, none⟩ = some (.int .i64 x.f) := cell_of hn1 0
  have c1 : W1.cell? ⟨w.heap.size, 1, none⟩ = some (.int .i64 x.t) := cell_of hn1 1
  clear hb1 e1 hn1
  go_enter Tryz.func44, Tryz.ntmps44
  go_upto_region 1 with fail
  rw [E1.out]
  clear E1
  unfold I64 Sp.len at h
  obtain ⟨h1, h2⟩ := h
  go_wp2_with fail
  go_ret
  exact ⟨rfl, HB1.out⟩
set_option maxRecDepth 100000 in
set_option maxHeartbeats 4000000 in
theorem orderFits_any (r : RowM) (w : World) : Calls Tryz.prog 87 #[.agg r.vals] w fun e w' => e = .returned (.bool (orderB r)) ∧ Below w.heap.size w w' := by
  have hb1 := below_new w (.cells r.vals 66)
  have hn1 := heap_new w (.cells r.vals 66)
  obtain ⟨W1, e1⟩ : ∃ W, w.alloc (.cells r.vals 66) = W := ⟨_, rfl⟩
  have E1 : Hid (w.alloc (.cells r.vals 66) = W1) := e1
  rw [e1] at hb1 hn1
  have HB1 : Hid (Below w.heap.size w W1) := hb1
  have c0 : W1.cell? ⟨w.heap.size, 0, none⟩ = some (.int .u8 r.k) := cell_of hn1 0
  have c1 : W1.cell? ⟨w.heap.size, 1, none⟩ = some (.int .u8 r.o) := cell_of hn1 1
  clear hb1 e1 hn1
  unfold orderB
  cases h1 : (r.k == 1) with
  | true =>
    simp only [if_true]
    cases h2 : decide (1 ≤ r.o) with
    | true =>
      go_enter Tryz.func87, Tryz.ntmps87
      go_upto_region 1 with fail
      rw [E1.out]
      clear E1
      go_wp2_with fail
      go_ret
      exact ⟨rfl, HB1.out⟩
    | false =>
      go_enter Tryz.func87, Tryz.ntmps87
      go_upto_region 1 with fail
      rw [E1.out]
      clear E1
      go_wp2_with fail
      go_ret
      exact ⟨rfl, HB1.out⟩
  | false =>
    rw [if_neg (by simp)]
    go_enter Tryz.func87, Tryz.ntmps87
    go_upto_region 1 with fail
    rw [E1.out]
    clear E1
    go_wp2_with fail
    go_ret
    exact ⟨rfl, HB1.out⟩
set_option maxRecDepth 100000 in
set_option maxHeartbeats 4000000 in
theorem indexes_any (t : TbM) (k : Int) (w : World) (hl : TbL w t) : Calls Tryz.prog 86 #[.agg t.vals, .int .u8 k] w fun e w' => e = .returned (.tuple #[.int .i64 (idxN t.sl t.rs.length t.ts.length k).1, .int .i64 (idxN t.sl t.rs.length t.ts.length k).2]) ∧ Below w.heap.size w w' := by
  obtain ⟨hr1, hr2⟩ : t.rs.length ≤ t.rc ∧ t.rc ≤ 9223372036854775807 := by have := hl.R; exact ⟨by have := this.1; rw [List.length_map] at this; exact this, this.2.1⟩
  obtain ⟨ht1, ht2⟩ : t.ts.length ≤ t.tc ∧ t.tc ≤ 9223372036854775807 := by have := hl.T; exact ⟨by have := this.1; rw [List.length_map] at this; exact this, this.2.1⟩
  have hb1 := below_new w (.cells t.vals 27)
  have hn1 := heap_new w (.cells t.vals 27)
  obtain ⟨W1, e1⟩ : ∃ W, w.alloc (.cells t.vals 27) = W := ⟨_, rfl⟩
  have E1 : Hid (w.alloc (.cells t.vals 27) = W1) := e1
  rw [e1] at hb1 hn1
  have HB1 : Hid (Below w.heap.size w W1) := hb1
  have c1 : W1.cell? ⟨w.heap.size, 1, none⟩ = some (.slice t.ra t.rs.length t.rc) := cell_of hn1 1
  have c2 : W1.cell? ⟨w.heap.size, 2, none⟩ = some (.int .i64 t.sl) := cell_of hn1 2
  have c5 : W1.cell? ⟨w.heap.size, 5, none⟩ = some (.slice t.ta t.ts.length t.tc) := cell_of hn1 5
  clear hb1 e1 hn1
  unfold idxN
  cases h1 : (k == 1) with
  | true =>
    go_enter Tryz.func86, Tryz.ntmps86
    go_upto_region 1 with fail
    rw [E1.out]
    clear E1
    
    go_wp2_with fail
    go_quiet (fail)
    go_wp2_with fail
    go_ret2
    exact ⟨by simp [*], by first | exact HB1.out | exact below_d HB1.out _⟩
  | false =>
    cases h2 : (k == 2) with
    | true =>
      go_enter Tryz.func86, Tryz.ntmps86
      go_upto_region 1 with fail
      rw [E1.out]
      clear E1
      
      go_wp2_with fail
      go_quiet (fail)
      go_wp2_with fail
      go_ret2
      exact ⟨by simp [*], by first | exact HB1.out | exact below_d HB1.out _⟩
    | false =>
      cases h3 : (k == 3) with
      | true =>
        go_enter Tryz.func86, Tryz.ntmps86
        go_upto_region 1 with fail
        rw [E1.out]
        clear E1
        
        go_wp2_with fail
        go_quiet (fail)
        go_wp2_with fail
        go_ret2
        exact ⟨by simp [*], by first | exact HB1.out | exact below_d HB1.out _⟩
      | false =>
        cases h4 : (k == 4) with
        | true =>
          go_enter Tryz.func86, Tryz.ntmps86
          go_upto_region 1 with fail
          rw [E1.out]
          clear E1
          
          go_wp2_with fail
          go_quiet (fail)
          go_wp2_with fail
          go_ret2
          exact ⟨by simp [*], by first | exact HB1.out | exact below_d HB1.out _⟩
        | false =>
          cases h5 : (k == 5) with
          | true =>
            go_enter Tryz.func86, Tryz.ntmps86
            go_upto_region 1 with fail
            rw [E1.out]
            clear E1
            
            go_wp2_with fail
            go_quiet (fail)
            go_wp2_with fail
            go_ret2
            exact ⟨by simp [*], by first | exact HB1.out | exact below_d HB1.out _⟩
          | false =>
            cases h6 : (k == 6) with
            | true =>
              go_enter Tryz.func86, Tryz.ntmps86
              go_upto_region 1 with fail
              rw [E1.out]
              clear E1
              
              go_wp2_with fail
              go_ret2
              exact ⟨by simp [*], by first | exact HB1.out | exact below_d HB1.out _⟩
            | false =>
              go_enter Tryz.func86, Tryz.ntmps86
              go_upto_region 1 with fail
              rw [E1.out]
              clear E1
              
              go_wp2_with fail
              go_ret2
              exact ⟨by simp [*], by first | exact HB1.out | exact below_d HB1.out _⟩
theorem size216' : (Tryz.prog.info? 149).map (·.size) = some 4 := by kernel_rfl
theorem size219' : (Tryz.prog.info? 152).map (·.size) = some 8 := by kernel_rfl
theorem all4 (p : P4) : p.vals.all (·.oneCell') = true := by simp [P4.vals, Value.oneCell']
set_option maxRecDepth 100000 in
set_option maxHeartbeats 4000000 in
theorem partsOf_any (k o : Int) (w : World) : Calls Tryz.prog 78 #[.int .u8 k, .int .u8 o] w fun e w' => e = .returned (.agg (partsN k o).vals) ∧ Below w.heap.size w w' := by
  have hb1 := below_new w (.cells #[.bool false, .bool false, .bool false, .bool false] 149)
  have hn1 := heap_new w (.cells #[.bool false, .bool false, .bool false, .bool false] 149)
  obtain ⟨W1, e1⟩ : ∃ W, w.alloc (.cells #[.bool false, .bool false, .bool false, .bool false] 149) = W := ⟨_, rfl⟩
  have E1 : Hid (w.alloc (.cells #[.bool false, .bool false, .bool false, .bool false] 149) = W1) := e1
  rw [e1] at hb1 hn1
  have HB1 : Hid (Below w.heap.size w W1) := hb1
  have HN1 : Hid (W1.heap[w.heap.size]? = some (.cells #[.bool false, .bool false, .bool false, .bool false] 149 (0, 0))) := hn1
  clear hb1 e1 hn1
  unfold partsN
  cases h1 : (k == 1) with
  | true =>
    have HS : Hid ((W1.setRow w.heap.size (P4.vals ⟨true, true, o != 2, false⟩)).heap[w.heap.size]? = some (.cells (P4.vals ⟨true, true, o != 2, false⟩) 149 (0, 0))) := setRow_heap _ _ _ _ _ _ HN1.out
    have HBS : Hid (Below w.heap.size w (W1.setRow w.heap.size (P4.vals ⟨true, true, o != 2, false⟩))) := below_row HB1.out (Nat.le_refl _) _
    go_enter Tryz.func78, Tryz.ntmps78
    go_upto_region 1 with fail
    rw [E1.out]
    clear E1
    go_wp2_with (refine wpList_store_row rfl 149 (.tmp 4) (.tmp 10) rfl w.heap.size (P4.vals ⟨true, true, o != 2, false⟩) rfl rfl 149 #[.bool false, .bool false, .bool false, .bool false] HN1.out size216' rfl (all4 _) ?_)
    exact bodyPost_ret (results_cell_row rfl _ _ w.heap.size 149 (P4.vals ⟨true, true, o != 2, false⟩) (0, 0) _ rfl HS.out Tryz.underlying149 rfl size216') rfl ⟨by simp [*], HBS.out⟩
  | false =>
    cases h2 : (k == 2) with
    | true =>
      have HS : Hid ((W1.setRow w.heap.size (P4.vals ⟨false, true, true, false⟩)).heap[w.heap.size]? = some (.cells (P4.vals ⟨false, true, true, false⟩) 149 (0, 0))) := setRow_heap _ _ _ _ _ _ HN1.out
      have HBS : Hid (Below w.heap.size w (W1.setRow w.heap.size (P4.vals ⟨false, true, true, false⟩))) := below_row HB1.out (Nat.le_refl _) _
      go_enter Tryz.func78, Tryz.ntmps78
      go_upto_region 1 with fail
      rw [E1.out]
      clear E1
      go_wp2_with (refine wpList_store_row rfl 149 (.tmp 4) (.tmp 13) rfl w.heap.size (P4.vals ⟨false, true, true, false⟩) rfl rfl 149 #[.bool false, .bool false, .bool false, .bool false] HN1.out size216' rfl (all4 _) ?_)
      exact bodyPost_ret (results_cell_row rfl _ _ w.heap.size 149 (P4.vals ⟨false, true, true, false⟩) (0, 0) _ rfl HS.out Tryz.underlying149 rfl size216') rfl ⟨by simp [*], HBS.out⟩
    | false =>
      cases h4 : (k == 4) with
      | true =>
        have HS : Hid ((W1.setRow w.heap.size (P4.vals ⟨false, false, false, true⟩)).heap[w.heap.size]? = some (.cells (P4.vals ⟨false, false, false, true⟩) 149 (0, 0))) := setRow_heap _ _ _ _ _ _ HN1.out
        have HBS : Hid (Below w.heap.size w (W1.setRow w.heap.size (P4.vals ⟨false, false, false, true⟩))) := below_row HB1.out (Nat.le_refl _) _
        go_enter Tryz.func78, Tryz.ntmps78
        go_upto_region 1 with fail
        rw [E1.out]
        clear E1
        go_wp2_with (refine wpList_store_row rfl 149 (.tmp 4) (.tmp 16) rfl w.heap.size (P4.vals ⟨false, false, false, true⟩) rfl rfl 149 #[.bool false, .bool false, .bool false, .bool false] HN1.out size216' rfl (all4 _) ?_)
        exact bodyPost_ret (results_cell_row rfl _ _ w.heap.size 149 (P4.vals ⟨false, false, false, true⟩) (0, 0) _ rfl HS.out Tryz.underlying149 rfl size216') rfl ⟨by simp [*], HBS.out⟩
      | false =>
        have HS : Hid ((W1.setRow w.heap.size (P4.vals ⟨false, false, false, false⟩)).heap[w.heap.size]? = some (.cells (P4.vals ⟨false, false, false, false⟩) 149 (0, 0))) := setRow_heap _ _ _ _ _ _ HN1.out
        have HBS : Hid (Below w.heap.size w (W1.setRow w.heap.size (P4.vals ⟨false, false, false, false⟩))) := below_row HB1.out (Nat.le_refl _) _
        go_enter Tryz.func78, Tryz.ntmps78
        go_upto_region 1 with fail
        rw [E1.out]
        clear E1
        go_wp2_with (refine wpList_store_row rfl 149 (.tmp 4) (.tmp 17) rfl w.heap.size (P4.vals ⟨false, false, false, false⟩) rfl rfl 149 #[.bool false, .bool false, .bool false, .bool false] HN1.out size216' rfl (all4 _) ?_)
        exact bodyPost_ret (results_cell_row rfl _ _ w.heap.size 149 (P4.vals ⟨false, false, false, false⟩) (0, 0) _ rfl HS.out Tryz.underlying149 rfl size216') rfl ⟨by simp [*], HBS.out⟩
theorem all8 (r : RowM) : (spV r).all (·.oneCell') = true := by simp [spV, Value.oneCell']
set_option maxRecDepth 100000 in
set_option maxHeartbeats 4000000 in
theorem spansOf_any (r : RowM) (w : World) : Calls Tryz.prog 79 #[.agg r.vals] w fun e w' => e = .returned (.agg (spV r)) ∧ Below w.heap.size w w' := by
  have hb1 := below_new w (.cells r.vals 66)
  have hn1 := heap_new w (.cells r.vals 66)
  obtain ⟨W1, e1⟩ : ∃ W, w.alloc (.cells r.vals 66) = W := ⟨_, rfl⟩
  have E1 : Hid (w.alloc (.cells r.vals 66) = W1) := e1
  rw [e1] at hb1 hn1
  have HB1 : Hid (Below w.heap.size w W1) := hb1
  have c3 : W1.cell? ⟨w.heap.size, 3, none⟩ = some (.int .i64 r.sd.f) := cell_of hn1 3
  have c4 : W1.cell? ⟨w.heap.size, 4, none⟩ = some (.int .i64 r.sd.t) := cell_of hn1 4
  have c5 : W1.cell? ⟨w.heap.size, 5, none⟩ = some (.int .i64 r.qt.f) := cell_of hn1 5
  have c6 : W1.cell? ⟨w.heap.size, 6, none⟩ = some (.int .i64 r.qt.t) := cell_of hn1 6
  have c7 : W1.cell? ⟨w.heap.size, 7, none⟩ = some (.int .i64 r.pr.f) := cell_of hn1 7
  have c8 : W1.cell? ⟨w.heap.size, 8, none⟩ = some (.int .i64 r.pr.t) := cell_of hn1 8
  have c9 : W1.cell? ⟨w.heap.size, 9, none⟩ = some (.int .i64 r.vl.f) := cell_of hn1 9
  have c10 : W1.cell? ⟨w.heap.size, 10, none⟩ = some (.int .i64 r.vl.t) := cell_of hn1 10
  have hsz : W1.heap.size = w.heap.size + 1 := by rw [← e1]; exact size_alloc _ _
  have hb2 := below_new W1 (.cells #[.int .i64 0, .int .i64 0, .int .i64 0, .int .i64 0, .int .i64 0, .int .i64 0, .int .i64 0, .int .i64 0] 152)
  have hn2 := heap_new W1 (.cells #[.int .i64 0, .int .i64 0, .int .i64 0, .int .i64 0, .int .i64 0, .int .i64 0, .int .i64 0, .int .i64 0] 152)
  have hk : (W1.alloc (.cells #[.int .i64 0, .int .i64 0, .int .i64 0, .int .i64 0, .int .i64 0, .int .i64 0, .int .i64 0, .int .i64 0] 152)).heap[w.heap.size]? = W1.heap[w.heap.size]? := hb2.block _ (by omega)
  obtain ⟨W2, e2⟩ : ∃ W, W1.alloc (.cells #[.int .i64 0, .int .i64 0, .int .i64 0, .int .i64 0, .int .i64 0, .int .i64 0, .int .i64 0, .int .i64 0] 152) = W := ⟨_, rfl⟩
  have E2 : Hid (W1.alloc (.cells #[.int .i64 0, .int .i64 0, .int .i64 0, .int .i64 0, .int .i64 0, .int .i64 0, .int .i64 0, .int .i64 0] 152) = W2) := e2
  rw [e2] at hb2 hn2 hk
  have d3 := (World.cell?_of_block (a := ⟨w.heap.size, 3, none⟩) hk).trans c3
  have d4 := (World.cell?_of_block (a := ⟨w.heap.size, 4, none⟩) hk).trans c4
  have d5 := (World.cell?_of_block (a := ⟨w.heap.size, 5, none⟩) hk).trans c5
  have d6 := (World.cell?_of_block (a := ⟨w.heap.size, 6, none⟩) hk).trans c6
  have d7 := (World.cell?_of_block (a := ⟨w.heap.size, 7, none⟩) hk).trans c7
  have d8 := (World.cell?_of_block (a := ⟨w.heap.size, 8, none⟩) hk).trans c8
  have d9 := (World.cell?_of_block (a := ⟨w.heap.size, 9, none⟩) hk).trans c9
  have d10 := (World.cell?_of_block (a := ⟨w.heap.size, 10, none⟩) hk).trans c10
  obtain ⟨G, eG⟩ : ∃ G, w.heap.size + 1 = G := ⟨_, rfl⟩
  rw [hsz, eG] at hn2
  have HN2 : Hid (W2.heap[G]? = some (.cells #[.int .i64 0, .int .i64 0, .int .i64 0, .int .i64 0, .int .i64 0, .int .i64 0, .int .i64 0, .int .i64 0] 152 (0, 0))) := hn2
  have HS : Hid ((W2.setRow G (spV r)).heap[G]? = some (.cells (spV r) 152 (0, 0))) := setRow_heap _ _ _ _ _ _ HN2.out
  have HBS : Hid (Below w.heap.size w (W2.setRow G (spV r))) := below_row (below2 HB1.out hb2) (by omega) _
  have HG : Hid (w.heap.size + 1 = G) := eG
  clear hb1 hn1 e1 hb2 hn2 hk e2 hsz c3 c4 c5 c6 c7 c8 c9 c10 eG
  go_enter Tryz.func79, Tryz.ntmps79
  go_upto_region 1 with fail
  rw [E1.out, E2.out, HG.out]
  clear E1 E2 HG
  go_wp2_with (refine wpList_store_row rfl 152 (.tmp 2) (.tmp 11) rfl G (spV r) rfl rfl 152 #[.int .i64 0, .int .i64 0, .int .i64 0, .int .i64 0, .int .i64 0, .int .i64 0, .int .i64 0, .int .i64 0] HN2.out size219' rfl (all8 _) ?_)
  exact bodyPost_ret (results_cell_row rfl _ _ G 152 (spV r) (0, 0) _ rfl HS.out Tryz.underlying152 rfl size219') rfl ⟨rfl, HBS.out⟩
end Go.Proofs.YteedmmljahgpjabGreatDoor
