import Derived.Test.YteedmmljahgpjaaGreatDoorM5
import Derived.Test.YteedmmljahgpjaaGreatDoorM2
import Derived.Test.YteedmmljahgpjaaGreatDoorM3
import Derived.Deep.MidRow
import Derived.Deep.AppendLies
import Derived.Laws.AppendOwn
import Derived.Laws.AppendOwnNone
import Derived.Laws.Tables
import Derived.Laws.Rows
/-
  A number at a place: the document's Take.
-/
namespace Go.Proofs.YteedmmljahgpjaaGreatDoor.W
open Go.RowKit

set_option maxRecDepth 100000 in
set_option maxHeartbeats 1000000 in
theorem rtake_in (s : ByteArray) (a : Nat) (hs : s.size ≤ 1099511627776) (ha : a ≤ s.size) (n p e : Int) (hG : Goal a (s.data.toList.drop a) 0 0 n p e) (w : World) :
    Calls Tryz.prog 86 #[.string s, .int .i64 a] w fun r w' => r = .returned (.tuple #[.int .u64 n, .int .i64 p, .int .i64 e]) ∧ w' = w := by
  have HG : Hid (Goal a (s.data.toList.drop a) 0 0 n p e) := hG
  clear hG
  have hd1 : decide ((a : Int) < 0) = false := decide_eq_false (by omega)
  have hd2 : decide ((s.size : Int) < (a : Int)) = false := decide_eq_false (by omega)
  have hd3 : decide (s.size < a) = false := decide_eq_false (by omega)
  go_enter Tryz.func86, Tryz.ntmps86
  go_wp2_with fail
  go_loop [7, 8, 9] (fun t u j => ∃ (i : Nat) (x S : Int), i ≤ 9 ∧ a + i ≤ s.size ∧ 0 ≤ x ∧ 0 ≤ S ∧ x < S ∧ S ≤ 9223372036854775808 ∧ Hid (S = ((128 ^ i : Nat) : Int)) ∧ j = .int .i64 i ∧ t = .int .u64 x ∧ u = .int .u64 S ∧ Hid (Goal a (s.data.toList.drop (a + i)) i x n p e)) (fun _ _ j => 10 - (intOf j).toNat)
  case atStart => exact ⟨0, 0, 1, by omega, by omega, by decide, by decide, by decide, by decide, rfl, rfl, rfl, rfl, HG⟩
  case round =>
    obtain ⟨i, x, S, hi, hai, hx0, hS0, hx1, hS1, HS, rfl, rfl, rfl, HR⟩ := hrel
    have h10 : (i : Int) < 10 := by omega
    by_cases hend : a + i = s.size
    · have hend' : (a : Int) + (i : Int) = (s.size : Int) := by omega
      have HE := HR.out
      rw [drop_end s _ (by omega)] at HE
      obtain ⟨e1, e2, e3⟩ := goal_nil (by omega) HE
      have E1 : Hid (n = 0) := e1
      have E2 : Hid (p = a) := e2
      have E3 : Hid (e = 30) := e3
      clear HE e1 e2 e3
      go_wp2_with fail
      go_ret3
      exact ⟨ret3 E1.out.symm E2.out.symm E3.out.symm, rfl⟩
    · have hend' : ¬ (a : Int) + (i : Int) = (s.size : Int) := by omega
      have hlt : a + i < s.size := by omega
      obtain ⟨c, Ec⟩ : ∃ c : Int, Hid (((s[a + i].toNat : Nat) : Int) = c) := ⟨((s[a + i].toNat : Nat) : Int), (rfl : ((s[a + i].toNat : Nat) : Int) = _)⟩
      have hc255 := s[a + i].toNat_lt
      have ec : IntKind.u64.wrap ((s[a + i].toNat : Nat) : Int) = c := by rw [IntKind.wrap_u64, ← Ec.out]; omega
      have hc0 : 0 ≤ c := by rw [← Ec.out]; omega
      have hc1 : c ≤ 255 := by rw [← Ec.out]; omega
      obtain ⟨m, em⟩ : ∃ m : Int, c % 128 = m := ⟨_, rfl⟩
      have em2 : c.tmod 128 = m := by rw [Int.tmod_eq_emod_of_nonneg hc0, em]
      obtain ⟨M, eM⟩ : ∃ M : Int, IntKind.u64.wrap (m * S) = M := ⟨_, rfl⟩
      obtain ⟨Y, eY⟩ : ∃ Y : Int, IntKind.u64.wrap (x + M) = Y := ⟨_, rfl⟩
      obtain ⟨S2, eS⟩ : ∃ S2 : Int, IntKind.u64.wrap (S * 128) = S2 := ⟨_, rfl⟩
      have HY : Hid ((i < 9 ∨ (i = 9 ∧ s[a + i].toNat % 128 = 1)) → Y = x + ((128 ^ i * (s[a + i].toNat % 128) : Nat) : Int)) := by
        intro hh
        have hg := or_group x.toNat (s[a + i].toNat % 128) i (by have := HS.out; omega) (by omega) hh
        have hSm : m * S = ((128 ^ i * (s[a + i].toNat % 128) : Nat) : Int) := by
          rw [HS.out, ← em, ← Ec.out, Nat.mul_comm]
          simp
        rw [← eY, ← eM, hSm]
        rw [IntKind.wrap_u64, IntKind.wrap_u64]
        omega
      have HD := HR.out
      rw [drop_at s (a + i) hlt] at HD
      by_cases h9 : i = 9
      · have h9' : ((i : Int) == 9) = true := by simp; omega
        by_cases hc : c = 1
        · have hb1 : (c == 1) = true := by simp [hc]
          have hb2 : (c != 1) = false := by simp [hc]
          have hb3 : (c == 0) = false := by simp [hc]
          have hb4 : c < 128 := by omega
          obtain ⟨e1, e2, e3⟩ := goal_end (by omega) (by rw [Ec.out]; omega) (by rw [Ec.out]; unfold endB; exact decide_eq_true (by omega)) HD
          have E1 : Hid (n = Y) := by
            show _ = _
            have h1 : s[a + i].toNat = 1 := by have := Ec.out; omega
            have := HY.out (.inr ⟨h9, by omega⟩)
            rw [show s[a + i].toNat % 128 = s[a + i].toNat by omega] at this
            rw [e1, this]
          have E2 : Hid (p = a + i + 1) := e2
          have E3 : Hid (e = 0) := e3
          clear e1 e2 e3 HD hc h9
          go_wp2_with fail
          go_ret3
          exact ⟨ret3 E1.out.symm E2.out.symm E3.out.symm, rfl⟩
        · have hb1 : (c == 1) = false := by simp [hc]
          have hb2 : (c != 1) = true := by simp [hc]
          have HL : Hid (n = 0 ∧ p = a ∧ e = 31) := by
            by_cases h128 : c < 128
            · exact goal_bad (by omega) (by rw [Ec.out]; omega) (by rw [Ec.out]; unfold endB; exact decide_eq_false (by omega)) HD
            · exact goal_ten (by omega) (goal_more (by omega) (by rw [Ec.out]; omega) HD)
          clear HD hc h9
          go_wp2_with fail
          go_ret3
          exact ⟨ret3 HL.out.1.symm HL.out.2.1.symm HL.out.2.2.symm, rfl⟩
      · have h9' : ((i : Int) == 9) = false := by simp; omega
        by_cases hc : c < 128
        · by_cases hbad : c = 0 ∧ 0 < i
          · have hb3 : (c == 0) = true := by simp [hbad.1]
            have hb5 : (0 : Int) < (i : Int) := by omega
            have HL : Hid (n = 0 ∧ p = a ∧ e = 31) := goal_bad (by omega) (by rw [Ec.out]; omega) (by rw [Ec.out]; unfold endB; exact decide_eq_false (by omega)) HD
            clear HD h9 hbad
            go_wp2_with fail
            go_ret3
            exact ⟨ret3 HL.out.1.symm HL.out.2.1.symm HL.out.2.2.symm, rfl⟩
          · obtain ⟨e1, e2, e3⟩ := goal_end (by omega) (by rw [Ec.out]; omega) (by rw [Ec.out]; unfold endB; exact decide_eq_true (by omega)) HD
            have E1 : Hid (n = Y) := by
              show _ = _
              have := HY.out (.inl (by omega))
              have h1 := Ec.out
              rw [show s[a + i].toNat % 128 = s[a + i].toNat by omega] at this
              rw [e1, this]
            have E2 : Hid (p = a + i + 1) := e2
            have E3 : Hid (e = 0) := e3
            by_cases h0 : c = 0
            · have hb3 : (c == 0) = true := by simp [h0]
              have hb5 : ¬ (0 : Int) < (i : Int) := by omega
              have hb6 : decide ((0 : Int) < (i : Int)) = false := decide_eq_false hb5
              clear e1 e2 e3 HD h9 hbad h0
              go_wp2_with fail
              go_ret3
              exact ⟨ret3 E1.out.symm E2.out.symm E3.out.symm, rfl⟩
            · have hb3 : (c == 0) = false := by simp [h0]
              clear e1 e2 e3 HD h9 hbad h0
              go_wp2_with fail
              go_ret3
              exact ⟨ret3 E1.out.symm E2.out.symm E3.out.symm, rfl⟩
        · have hc' : ¬ c < 128 := hc
          have hc'' : decide (c < 128) = false := decide_eq_false hc
          have HM := goal_more (by omega) (by rw [Ec.out]; omega) HD
          have hy := HY.out (.inl (by omega))
          have hpow : (128 ^ (i + 1) : Nat) = 128 ^ i * 128 := Nat.pow_succ _ _
          have hS8 : S ≤ 72057594037927936 := by
            rw [HS.out]
            have h8 : 128 ^ i ≤ 128 ^ 8 := Nat.pow_le_pow_right (by omega) (by omega)
            have h7 : 128 ^ 8 = 72057594037927936 := by decide
            omega
          have hS2 : S2 = S * 128 := by rw [← eS, IntKind.wrap_u64]; omega
          have hSn := HS.out
          have hY1 : 0 ≤ Y := by rw [hy]; omega
          have hY2 : Y < S2 := by
            have h2 : 128 ^ i * (s[a + i].toNat % 128) ≤ 128 ^ i * 127 := Nat.mul_le_mul_left _ (by omega)
            rw [hy, hS2]
            omega
          have hS3 : S2 ≤ 9223372036854775808 := by omega
          have hS4 : 0 ≤ S2 := by omega
          have HS2 : Hid (S2 = ((128 ^ (i + 1) : Nat) : Int)) := by show _ = _; rw [hpow, hS2]; omega
          have HN : Hid (Goal a (s.data.toList.drop (a + (i + 1))) (i + 1) Y n p e) := by show Goal _ _ _ _ _ _ _; rw [← Nat.add_assoc, hy]; exact HM
          have hi9 : i + 1 ≤ 9 := by omega
          clear HD HM h9 hc hS2 hSn hpow hy
          go_wp2_with fail
          go_round
          case rel => exact ⟨i + 1, Y, S2, hi9, by omega, hY1, hS4, hY2, hS3, HS2, by go_num, rfl, rfl, HN⟩
          case measure => simp [intOf]; omega

theorem rtake_any (s : ByteArray) (a : Int) (hs : s.size ≤ 1099511627776) (w : World) :
    Calls Tryz.prog 86 #[.string s, .int .i64 a] w fun r w' => r = .returned (.tuple #[.int .u64 (takeN s.data.toList a : Nat), .int .i64 (takeP s.data.toList a), .int .i64 (takeE s.data.toList a : Nat)]) ∧ w' = w := by
  have hl := len_of s
  by_cases h0 : a < 0
  · have hE : takeE s.data.toList a = 1 := takeE_arg (.inl h0)
    rw [hE, takeN_no (by rw [hE]; decide), takeP_no (by rw [hE]; decide)]
    go_enter Tryz.func86, Tryz.ntmps86
    go_wp2_with fail
    go_ret3
    exact ⟨rfl, rfl⟩
  · by_cases h1 : (s.size : Int) < a
    · have hE : takeE s.data.toList a = 1 := takeE_arg (.inr (by rw [hl]; exact h1))
      rw [hE, takeN_no (by rw [hE]; decide), takeP_no (by rw [hE]; decide)]
      go_enter Tryz.func86, Tryz.ntmps86
      go_wp2_with fail
      go_ret3
      exact ⟨rfl, rfl⟩
    · obtain ⟨k, rfl⟩ := Int.eq_ofNat_of_zero_le (show 0 ≤ a by omega)
      have hG := goal_start s.data.toList k (by omega) (by omega)
      rw [Int.toNat_natCast] at hG
      exact rtake_in s k hs (by omega) _ _ _ hG w
end Go.Proofs.YteedmmljahgpjaaGreatDoor.W

/-
  Tables: plain, and in memory.
-/
namespace Go.Proofs.YteedmmljahgpjaaGreatDoor
open Go.RowKit
set_option linter.unusedVariables false
def B8 (i : Int) : Prop := 0 ≤ i ∧ i ≤ 255
def U16 (i : Int) : Prop := 0 ≤ i ∧ i ≤ 65535
def I64 (i : Int) : Prop := -9223372036854775808 ≤ i ∧ i ≤ 9223372036854775807
def SzX (x : ByteArray) : Prop := x.size ≤ 140737488355328
/-- Things of n cells each, one behind the other. -/
def SlAt (w : World) (n : Nat) (a : Option Addr) (c : Nat) (vs : List (Array Value)) : Prop :=
  vs.length ≤ c ∧ c ≤ 9223372036854775807 ∧ ∀ i (hi : i < vs.length), ∃ b o, a = some ⟨b, o, none⟩ ∧ ∀ j, j < n → w.cell? ⟨b, o + i * n + j, none⟩ = vs[i][j]?
structure Sp where
  f : Int
  t : Int
structure RowM where
  k : Int
  o : Int
  i : Int
  sd : Sp
  qt : Sp
  pr : Sp
  vl : Sp
structure GdM where
  wh : Sp
  fd : Int
  rg : Int
  a : Option Addr
  c : Nat
  rs : List RowM
structure StM where
  a : Option Addr
  c : Nat
  gs : List GdM
structure InM where
  k : Int
  a : Int
structure TbM where
  x : ByteArray
  ra : Option Addr
  rc : Nat
  rs : List Int
  sl : Int
  ca : Option Addr
  cc : Nat
  cs : List Int
  da : Option Addr
  dc : Nat
  ds : List InM
  ta : Option Addr
  tc : Nat
  ts : List StM
def nvals (n : Int) : Array Value := #[.int .i64 n]
def Sp.vals (x : Sp) : Array Value := #[.int .i64 x.f, .int .i64 x.t]
def RowM.vals (r : RowM) : Array Value := #[.int .u8 r.k, .int .u8 r.o, .int .i64 r.i, .int .i64 r.sd.f, .int .i64 r.sd.t, .int .i64 r.qt.f, .int .i64 r.qt.t, .int .i64 r.pr.f, .int .i64 r.pr.t, .int .i64 r.vl.f, .int .i64 r.vl.t]
def GdM.vals (g : GdM) : Array Value := #[.int .i64 g.wh.f, .int .i64 g.wh.t, .int .u16 g.fd, .int .u16 g.rg, .slice g.a g.rs.length g.c]
def StM.vals (s : StM) : Array Value := #[.slice s.a s.gs.length s.c]
def InM.vals (x : InM) : Array Value := #[.int .u8 x.k, .int .i64 x.a]
def TbM.vals (t : TbM) : Array Value := #[.string t.x, .slice t.ra t.rs.length t.rc, .int .i64 t.sl, .slice t.ca t.cs.length t.cc, .slice t.da t.ds.length t.dc, .slice t.ta t.ts.length t.tc]
def SpI (x : Sp) : Prop := I64 x.f ∧ I64 x.t
def RowI (r : RowM) : Prop := B8 r.k ∧ B8 r.o ∧ I64 r.i ∧ SpI r.sd ∧ SpI r.qt ∧ SpI r.pr ∧ SpI r.vl
def GdL (w : World) (g : GdM) : Prop := SpI g.wh ∧ U16 g.fd ∧ U16 g.rg ∧ SlAt w 11 g.a g.c (g.rs.map RowM.vals) ∧ ∀ r ∈ g.rs, RowI r
def StL (w : World) (s : StM) : Prop := SlAt w 5 s.a s.c (s.gs.map GdM.vals) ∧ ∀ g ∈ s.gs, GdL w g
structure TbL (w : World) (t : TbM) : Prop where
  R : SlAt w 1 t.ra t.rc (t.rs.map nvals)
  Ri : ∀ n ∈ t.rs, I64 n
  S : I64 t.sl
  C : SlAt w 1 t.ca t.cc (t.cs.map nvals)
  Ci : ∀ n ∈ t.cs, I64 n
  D : SlAt w 2 t.da t.dc (t.ds.map InM.vals)
  Di : ∀ d ∈ t.ds, B8 d.k ∧ I64 d.a
  T : SlAt w 1 t.ta t.tc (t.ts.map StM.vals)
  Ti : ∀ s ∈ t.ts, StL w s
  X : SzX t.x
theorem SlAt.on {w w' : World} {n : Nat} {a : Option Addr} {c : Nat} {vs : List (Array Value)} (h : SlAt w n a c vs) (hz : ∀ x ∈ vs, n ≤ x.size) (k : Below w.heap.size w w') : SlAt w' n a c vs := by
  refine ⟨h.1, h.2.1, fun i hi => ?_⟩
  obtain ⟨b, o, h1, h2⟩ := h.2.2 i hi
  refine ⟨b, o, h1, fun j hj => ?_⟩
  have hs := hz _ (List.getElem_mem hi)
  have h3 := h2 j hj
  rw [Array.getElem?_eq_getElem (by omega)] at h3
  rw [World.cell?_of_block (k.block b (World.block_lt_of_cell? w _ h3))]
  rw [h3, Array.getElem?_eq_getElem (by omega)]
theorem mapz {α : Type} {f : α → Array Value} {n : Nat} (hf : ∀ a, (f a).size = n) (l : List α) : ∀ x ∈ l.map f, n ≤ x.size := by
  intro x hx
  obtain ⟨a, _, rfl⟩ := List.mem_map.1 hx
  rw [hf a]
  exact Nat.le_refl _
theorem nvals_sz (n : Int) : (nvals n).size = 1 := rfl
theorem Sp.sz (x : Sp) : x.vals.size = 2 := rfl
theorem RowM.sz (x : RowM) : x.vals.size = 11 := rfl
theorem GdM.sz (x : GdM) : x.vals.size = 5 := rfl
theorem StM.sz (x : StM) : x.vals.size = 1 := rfl
theorem InM.sz (x : InM) : x.vals.size = 2 := rfl
theorem TbM.sz (x : TbM) : x.vals.size = 6 := rfl
theorem GdL.on {w w' : World} {g : GdM} (h : GdL w g) (k : Below w.heap.size w w') : GdL w' g := ⟨h.1, h.2.1, h.2.2.1, h.2.2.2.1.on (mapz RowM.sz _) k, h.2.2.2.2⟩
theorem StL.on {w w' : World} {g : StM} (h : StL w g) (k : Below w.heap.size w w') : StL w' g := ⟨h.1.on (mapz GdM.sz _) k, fun x hx => (h.2 x hx).on k⟩
theorem TbL.on {w w' : World} {t : TbM} (h : TbL w t) (k : Below w.heap.size w w') : TbL w' t :=
  ⟨h.R.on (mapz nvals_sz _) k, h.Ri, h.S, h.C.on (mapz nvals_sz _) k, h.Ci, h.D.on (mapz InM.sz _) k, h.Di, h.T.on (mapz StM.sz _) k, fun x hx => (h.Ti x hx).on k, h.X⟩
theorem below2 {w w1 w2 : World} (h1 : Below w.heap.size w w1) (h2 : Below w1.heap.size w1 w2) : Below w.heap.size w w2 := h1.trans (h2.mono h1.size)
theorem Mv.ofBelow {w w' : World} {F : Nat → Prop} (h : Below w.heap.size w w') : Mv w w' F := ⟨h.os, h.tape, h.output, h.size, fun k hk _ => h.block k hk⟩
theorem below_d {w w1 : World} (h1 : Below w.heap.size w w1) (n : Nat) : Below w.heap.size w (w1.drewN n) := h1.trans ⟨rfl, rfl, rfl, Nat.le_refl _, fun _ _ => rfl⟩
theorem below_row {w V : World} (h : Below w.heap.size w V) {R : Nat} (hR : w.heap.size ≤ R) (cs : Array Value) : Below w.heap.size w (V.setRow R cs) := by
  have m : Mv w V (fun _ => False) := Mv.ofBelow h
  have hsz : (V.setRow R cs).heap.size = V.heap.size := by unfold World.setRow; simp
  have m2 : Mv w (V.setRow R cs) (fun _ => False) := ⟨m.os, m.tape, m.output, by rw [hsz]; exact m.size, fun k hk hn' => by
    rw [setRow_other _ _ _ _ (show k ≠ R by omega)]
    exact m.block k hk hn'⟩
  exact m2.below (Nat.le_refl _) (fun _ e => e.elim)
theorem size65' : (Tryz.prog.info? 65).map (·.size) = some 2 := by kernel_rfl
theorem size85' : (Tryz.prog.info? 85).map (·.size) = some 11 := by kernel_rfl
theorem size68' : (Tryz.prog.info? 68).map (·.size) = some 5 := by kernel_rfl
theorem size61' : (Tryz.prog.info? 61).map (·.size) = some 2 := by kernel_rfl
theorem size26' : (Tryz.prog.info? 26).map (·.size) = some 6 := by kernel_rfl
theorem allSp (r : Sp) : r.vals.all (·.oneCell') = true := by simp [Sp.vals, Value.oneCell']
theorem allRow (r : RowM) : r.vals.all (·.oneCell') = true := by simp [RowM.vals, Value.oneCell']
theorem allGd (r : GdM) : r.vals.all (·.oneCell') = true := by simp [GdM.vals, Value.oneCell']
theorem allIn (r : InM) : r.vals.all (·.oneCell') = true := by simp [InM.vals, Value.oneCell']
theorem allTb (r : TbM) : r.vals.all (·.oneCell') = true := by simp [TbM.vals, Value.oneCell']
-- ---------- plain
def withinB (l n m : Int) : Bool := decide (l ≤ n) && decide (n ≤ m)
def endsB (k : Int) : Bool := k == 5 || k == 6
def Sp.len (x : Sp) : Int := x.t - x.f
def orderB (r : RowM) : Bool := if r.k == 1 then decide (1 ≤ r.o) && decide (r.o ≤ 5) else r.o == 0
def idxN (sl : Int) (nr ns : Nat) (k : Int) : Int × Int :=
  if k == 1 then (0, sl) else if k == 2 then (1, sl) else if k == 3 then (1, sl) else if k == 4 then (0, (nr : Int) - 1) else if k == 5 then (0, (ns : Int) - 1) else if k == 6 then (0, 0) else (0, -1)
structure P4 where
  a : Bool
  b : Bool
  c : Bool
  d : Bool
def P4.vals (p : P4) : Array Value := #[.bool p.a, .bool p.b, .bool p.c, .bool p.d]
def partsN (k o : Int) : P4 := if k == 1 then ⟨true, true, o != 2, false⟩ else if k == 2 then ⟨false, true, true, false⟩ else if k == 4 then ⟨false, false, false, true⟩ else ⟨false, false, false, false⟩
def spV (r : RowM) : Array Value := #[.int .i64 r.sd.f, .int .i64 r.sd.t, .int .i64 r.qt.f, .int .i64 r.qt.t, .int .i64 r.pr.f, .int .i64 r.pr.t, .int .i64 r.vl.f, .int .i64 r.vl.t]
def sizesB (t : TbM) : Bool := decide ((t.rs.length : Int) ≤ 12) && withinB 0 t.sl 4 && decide ((t.cs.length : Int) ≤ 1024) && decide ((t.ds.length : Int) ≤ 4096) && withinB 1 t.ts.length 12
end Go.Proofs.YteedmmljahgpjaaGreatDoor
