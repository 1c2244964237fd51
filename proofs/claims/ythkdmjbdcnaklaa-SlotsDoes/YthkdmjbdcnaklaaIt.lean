/-
  An arena's All: what its iterator hands over.
-/
import Derived.Test.YthkdmjbdcnaklaaRepS
import Derived.RangeFuncNested
import Derived.RangeFuncBound
import Derived.RangeFuncCalls
import Derived.RangeFuncLeaves
import Derived.Shelf.Abstract
import Derived.Shelf.RegionOpen
import Derived.OwnWalkIn
import Derived.TacticsInMore
import Derived.LoopNIn
import Derived.LoopIn
namespace Go.Proofs.Ythkdmjbdcnaklaa
open Go.RowKit Go.Shelf

attribute [local go_sem] Oper.semAt_some

def posN : List Nat → Nat → Nat
  | [], _ => 0
  | a :: l, x => if a = x then 0 else posN l x + 1
theorem posN_eq {l : List Nat} (hd : l.Nodup) {k x : Nat} (h : l[k]? = some x) : posN l x = k := by
  induction l generalizing k with
  | nil => simp at h
  | cons a l ih =>
    rw [List.nodup_cons] at hd
    cases k with
    | zero => simp at h; subst h; simp [posN]
    | succ k =>
      simp at h
      have hne : a ≠ x := by rintro rfl; exact hd.1 (some_mem h)
      simp [posN, hne, ih hd.2 h]
/-- How many are still to come, where the walk stands at this number. -/
def toComeN (l : List Nat) (x : Int) : Nat := if x = -1 then 0 else l.length - posN l x.toNat
def toCome (l : List Nat) (v : Value) : Nat := toComeN l (intOf v)
theorem toCome_lt {l : List Nat} (hd : l.Nodup) {k : Nat} (h : k < l.length) : toCome l (.int .i64 (nth l k)) = l.length - k := by
  obtain ⟨x, hx, hv⟩ := nth_lt h
  show toComeN l (nth l k) = _
  unfold toComeN
  rw [hv, if_neg (by omega), Int.toNat_natCast, posN_eq hd hx]
theorem toCome_end {l : List Nat} {k : Nat} (h : l.length ≤ k) : toCome l (.int .i64 (nth l k)) = 0 := by
  show toComeN l (nth l k) = _
  unfold toComeN
  rw [nth_none h, if_pos rfl]

/-- These blocks lie as they lay. -/
structure Kps (K : Nat → Prop) (W W' : World) : Prop where
  size : W.heap.size ≤ W'.heap.size
  block : ∀ k, K k → W'.heap[k]? = W.heap[k]?
theorem Kps.refl (K : Nat → Prop) (W : World) : Kps K W W := ⟨Nat.le_refl _, fun _ _ => rfl⟩
theorem Kps.trans {K : Nat → Prop} {A B C : World} (h : Kps K A B) (k : Kps K B C) : Kps K A C := ⟨Nat.le_trans h.size k.size, fun b hb => (k.block b hb).trans (h.block b hb)⟩

/-- The row that is asked for, as a list of numbers. -/
structure Asked (nr : Nat) (q : Nat → List Nat) (row : Int) (l : List Nat) : Prop where
  ex : (∃ i : Nat, row = i ∧ i < nr ∧ l = q i) ∨ ((row < 0 ∨ (nr : Int) ≤ row) ∧ l = [])

theorem Ar.kps {X : Type} {tA tC : TypeId} {enc : X → Value} {w w' : World} {p : Pl} {s : St X} (h : Ar tA tC enc w p s) (m : ∀ k, Foot p k → w'.heap[k]? = w.heap[k]?) : Ar tA tC enc w' p s :=
  ⟨(m _ (.inl rfl)).trans h.own, h.rows.of_block (fun k hk => m k (.inr (.inl (by simp [Value.ownBlock] at hk; exact hk.symm)))), h.cells.of_block (fun k hk => m k (.inr (.inr (.inl (by rwa [ownB] at hk))))),
    h.freed.of_block (fun k hk => m k (.inr (.inr (.inr (by rwa [ownB] at hk)))))⟩
theorem RepI.kps {w w' : World} {p : Pl} {nr : Nat} {room : Int} {q : Nat → List Nat} {th : Nat → Int} (h : RepI w p nr room q th) (m : ∀ k, Foot p k → w'.heap[k]? = w.heap[k]?) : RepI w' p nr room q th := by
  obtain ⟨s, a, r⟩ := h.ex
  exact ⟨s, a.kps m, r⟩

theorem asked_first {w : World} {p : Pl} {nr : Nat} {room : Int} {q : Nat → List Nat} {th : Nat → Int} {row : Int} {l : List Nat} (h : RepI w p nr room q th) (ha : Asked nr q row l) :
    Calls Try.prog 18 #[.pointer (some ⟨p.A, 0, none⟩), .int .i64 row] w fun e w' => e = .returned (.int .i64 (nth l 0)) ∧ w' = w := by
  rcases ha.ex with ⟨i, rfl, hi, rfl⟩ | ⟨hr, rfl⟩
  · exact rep_firstI h hi
  · exact rep_first_noI h hr
theorem asked_next {w : World} {p : Pl} {nr : Nat} {room : Int} {q : Nat → List Nat} {th : Nat → Int} {row : Int} {l : List Nat} (h : RepI w p nr room q th) (ha : Asked nr q row l) {k : Nat} (hk : k < l.length) :
    Calls Try.prog 23 #[.pointer (some ⟨p.A, 0, none⟩), .int .i64 (nth l k)] w fun e w' => e = .returned (.int .i64 (nth l (k + 1))) ∧ w' = w := by
  rcases ha.ex with ⟨i, rfl, hi, rfl⟩ | ⟨hr, rfl⟩
  · obtain ⟨n, hn, hv⟩ := nth_lt hk
    rw [hv]
    exact rep_nextI h hi hn
  · simp at hk
theorem Asked.nodup {w : World} {p : Pl} {nr : Nat} {room : Int} {q : Nat → List Nat} {th : Nat → Int} {row : Int} {l : List Nat} (ha : Asked nr q row l) (h : RepI w p nr room q th) : l.Nodup := by
  rcases ha.ex with ⟨i, rfl, hi, rfl⟩ | ⟨hr, rfl⟩
  · exact h.nodup hi
  · exact List.nodup_nil
/-- The cell of a thing of the row. -/
theorem asked_cell {w : World} {p : Pl} {nr : Nat} {room : Int} {q : Nat → List Nat} {th : Nat → Int} {row : Int} {l : List Nat} (h : RepI w p nr room q th) (ha : Asked nr q row l) {k : Nat} (hk : k < l.length) :
    ∃ g nc cc n : Nat, w.cell? ⟨p.A, 2, none⟩ = some (.slice (some ⟨g, 0, none⟩) nc cc) ∧ n < nc ∧ nth l k = n ∧ w.cell? ⟨g, n * 4, none⟩ = some (.int .i64 (th n)) := by
  rcases ha.ex with ⟨i, rfl, hi, rfl⟩ | ⟨hr, rfl⟩
  · obtain ⟨n, hn, hv⟩ := nth_lt hk
    obtain ⟨s, a, v, rfl, rfl, t⟩ := h.ex
    have hlt := (v.row i hi n (some_mem hn)).1
    obtain ⟨g, hg⟩ := a.at (by omega)
    have c2 := a.c2
    rw [hg] at c2
    have c4 := a.th hg hlt
    rw [t i hi n (some_mem hn)] at c4
    exact ⟨g, s.nc, p.cc, n, c2, hlt, hv, c4⟩
  · simp at hk

theorem range_prefix {k n : Nat} (h : k ≤ n) : List.range k <+: List.range n := by
  obtain ⟨m, rfl⟩ : ∃ m, n = k + m := ⟨n - k, by omega⟩
  rw [List.range_add]
  exact List.prefix_append _ _

def encA (l : List Nat) (th : Nat → Int) (k : Nat) : Array Value := #[.int .i64 (nth l k), .int .i64 (th (nth l k).toNat)]

set_option maxRecDepth 100000 in
set_option maxHeartbeats 1000000 in
theorem all1_in (n : Nat) (hn : 1 ≤ n) (lo Ba Br : Nat) (p : Pl) (nr : Nat) (room : Int) (q : Nat → List Nat) (th : Nat → Int) (row : Int) (l : List Nat) (ha : Asked nr q row l) (J Jx : List Nat → World → Prop)
    (hY : ∀ pre x W, J pre W → pre.length < l.length → YieldAt Fence.wide (n - 1) Try.prog lo (encA l th x) W fun e W' =>
      (e = .returned (.bool true) ∧ J (pre ++ [x]) W' ∧ Kps (fun k => Foot p k ∨ k = Ba ∨ k = Br) W W') ∨ (e = .returned (.bool false) ∧ Jx (pre ++ [x]) W'))
    (W : World) (hBa : W.cell? ⟨Ba, 0, none⟩ = some (.pointer (some ⟨p.A, 0, none⟩))) (hBr : W.cell? ⟨Br, 0, none⟩ = some (.int .i64 row)) (hR : RepI W p nr room q th) (h0 : J [] W) :
    CallsIn Fence.wide n Try.prog 50 #[.func (.yield lo) #[] #[], .pointer (some ⟨Ba, 0, none⟩), .pointer (some ⟨Br, 0, none⟩)] W fun e W' => (∃ v, e = .returned v) ∧
      ((∃ ys, ys = List.range l.length ∧ J ys W') ∨ (∃ pre, pre <+: List.range l.length ∧ Jx pre W')) := by
  have hd := ha.nodup hR
  refine callsIn_of_wp Try.func50 rfl trivial ?_ rfl
  simp only [Try.ntmps50, List.size_toArray, List.length_cons, List.length_nil, Nat.reduceAdd, Nat.reduceSub, Array.replicate_succ, Array.replicate_zero, List.push_toArray, List.append_toArray, List.nil_append, List.cons_append]
  have cF := callsIn_wide (n := n - 1) |>.2 (asked_first hR ha)
  gi_wp2_with (refine ⟨trivial, ?_⟩; gi_at_call 18; refine cF.mono ?_; rintro e w1 ⟨rfl, rfl⟩)
  clear cF
  gi_loopw [4] (fun v wr => ∃ k : Nat, k ≤ l.length ∧ v = .int .i64 (nth l k) ∧ J (List.range k) wr ∧ Kps (fun k => Foot p k ∨ k = Ba ∨ k = Br) w1 wr) (fun v _ => toCome l v)
  case atStart => exact ⟨0, by omega, rfl, h0, Kps.refl _ _⟩
  case round =>
    obtain ⟨k, hk, rfl, hJ, hkp⟩ := hrel
    have hR' : RepI wr p nr room q th := hR.kps (fun b hb => hkp.block b (.inl hb))
    have hBa' : wr.cell? ⟨Ba, 0, none⟩ = some (.pointer (some ⟨p.A, 0, none⟩)) := (World.cell?_of_block (hkp.block Ba (.inr (.inl rfl)))).trans hBa
    by_cases hlt : k < l.length
    · obtain ⟨fn, tmps, assign, body, hy, hRo⟩ := hY (List.range k) k wr hJ (by simpa using hlt)
      obtain ⟨g, nc, cc, m, c2, hm, hv, c4⟩ := asked_cell hR' ha hlt
      have hne : (nth l k != -1) = true := by rw [hv]; exact bne_iff_ne.2 (by omega)
      have hmes := toCome_lt hd hlt
      unfold encA at hy
      rw [hv, Int.toNat_natCast] at hy
      rw [hv] at hne hmes
      rw [hv]
      gi_wp2
      refine hRo.mono ?_
      rintro e W3 (⟨rfl, hJ3, hk3⟩ | ⟨rfl, hJx3⟩)
      · have hkp3 := hkp.trans hk3
        have hR3 : RepI W3 p nr room q th := hR.kps (fun b hb => hkp3.block b (.inl hb))
        have hBa3 : W3.cell? ⟨Ba, 0, none⟩ = some (.pointer (some ⟨p.A, 0, none⟩)) := (World.cell?_of_block (hkp3.block Ba (.inr (.inl rfl)))).trans hBa
        have cN := callsIn_wide (n := n - 1) |>.2 (asked_next hR3 ha hlt)
        rw [hv] at cN
        gi_wp2_with (refine ⟨trivial, ?_⟩; gi_at_call 23; refine cN.mono ?_; rintro e w4 ⟨rfl, rfl⟩)
        refine ⟨⟨k + 1, hlt, rfl, by rw [List.range_succ]; exact hJ3, hkp3⟩, ?_⟩
        rw [hmes]
        by_cases hl2 : k + 1 < l.length
        · rw [toCome_lt hd hl2]; omega
        · rw [toCome_end (by omega)]; omega
      · gi_wp2
        refine bodyPost_ret (results_none rfl _ _ _) rfl ?_
        exact ⟨⟨_, rfl⟩, .inr ⟨_, by rw [← List.range_succ]; exact range_prefix hlt, hJx3⟩⟩
    · have hke : k = l.length := by omega
      have hv : nth l k = -1 := nth_none (by omega)
      rw [hv]
      gi_wp2
      go_end0
      exact ⟨⟨_, rfl⟩, .inl ⟨_, by rw [hke], hJ⟩⟩
theorem all_any (A : Addr) (row : Int) (w : World) : Calls Try.prog 20 #[.pointer (some A), .int .i64 row] w fun e w' => e = .returned (.func (.func 50) #[] #[.pointer (some ⟨w.heap.size, 0, none⟩), .pointer (some ⟨w.heap.size + 1, 0, none⟩)]) ∧ w' = (w.alloc (.cells #[.pointer (some A)] 24)).alloc (.cells #[.int .i64 row] 3) := by
  go_enter Try.func20, Try.ntmps20
  go_wp2_with fail
  go_ret
  exact ⟨rfl, rfl⟩

/-- What All hands over, round by round. -/
theorem all_stops (n : Nat) (hn : 1 ≤ n) (Ba Br : Nat) (p : Pl) (nr : Nat) (room : Int) (q : Nat → List Nat) (th : Nat → Int) (row : Int) (l : List Nat) (ha : Asked nr q row l) (w : World) (hR : RepI w p nr room q th)
    (hBa : w.cell? ⟨Ba, 0, none⟩ = some (.pointer (some ⟨p.A, 0, none⟩))) (hBr : w.cell? ⟨Br, 0, none⟩ = some (.int .i64 row)) :
    SeqStopsK Fence.wide n Try.prog 50 #[.pointer (some ⟨Ba, 0, none⟩), .pointer (some ⟨Br, 0, none⟩)] (encA l th) (Kps (fun k => Foot p k ∨ k = Ba ∨ k = Br)) (fun ys => ys = List.range l.length) (fun pre => pre <+: List.range l.length) l.length w := fun lo J Jx W hW _ _ hY h0 =>
  all1_in n hn lo Ba Br p nr room q th row l ha J Jx hY W ((hW.cell (p := ⟨Ba, 0, none⟩) (World.block_lt_of_cell? w _ hBa)).trans hBa) ((hW.cell (p := ⟨Br, 0, none⟩) (World.block_lt_of_cell? w _ hBr)).trans hBr) (hR.kps (fun k hk => hW.block k (hR.lt k hk))) h0

end Go.Proofs.Ythkdmjbdcnaklaa
