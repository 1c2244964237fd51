/-
  The rows' loop of SlotsLinks: what holds between two rounds.
-/
import Derived.Test.YthkdmjbdcnaklaaLkE
namespace Go.Proofs.Ythkdmjbdcnaklaa
open Go.RowKit Go.Shelf

def loopsOf : Code → List Code
  | .loop c => [c]
  | .seq a b => loopsOf a ++ loopsOf b
  | .block _ c => loopsOf c
  | .scope c => loopsOf c
  | .cond _ a b => loopsOf a ++ loopsOf b
  | _ => []
def rowsOf (b : Option Code) : Code := ((b.map loopsOf).getD []).getD 1 .skip

/-- Which numbers the first r rows have. -/
def sn (q : Nat → List Nat) : Nat → Nat → Bool
  | 0, _ => false
  | r + 1, j => sn q r j || (q r).contains j
theorem sn_iff (q : Nat → List Nat) (r j : Nat) : sn q r j = true ↔ ∃ i, i < r ∧ j ∈ q i := by
  induction r with
  | zero => simp [sn]
  | succ r ih =>
    unfold sn
    rw [Bool.or_eq_true, ih, List.contains_iff_mem]
    constructor
    · rintro (⟨i, hi, hm⟩ | hm)
      · exact ⟨i, by omega, hm⟩
      · exact ⟨r, by omega, hm⟩
    · rintro ⟨i, hi, hm⟩
      by_cases e : i = r
      · subst e; exact .inr hm
      · exact .inl ⟨i, by omega, hm⟩
/-- .. and the first k of one row more. -/
def snk (q : Nat → List Nat) (r k j : Nat) : Bool := sn q r j || ((q r).take k).contains j
theorem snk_zero (q : Nat → List Nat) (r j : Nat) : snk q r 0 j = sn q r j := by simp [snk]
theorem snk_full (q : Nat → List Nat) (r j : Nat) : snk q r (q r).length j = sn q (r + 1) j := by simp [snk, sn]
theorem snk_succ {q : Nat → List Nat} {r k n : Nat} (h : (q r)[k]? = some n) (j : Nat) : snk q r (k + 1) j = if j = n then true else snk q r k j := by
  have hk := some_lt h
  have hn : (q r)[k] = n := by rw [List.getElem?_eq_getElem hk] at h; exact Option.some.inj h
  unfold snk
  rw [List.take_succ_eq_append_getElem hk, hn]
  by_cases e : j = n
  · rw [if_pos e]; simp [e]
  · rw [if_neg e]
    simp only [List.contains_eq_mem, List.mem_append, List.mem_singleton, e, or_false]

structure BaseR (w W4 : World) (R M BA A0 : Nat) (p : Pl) (q : Nat → List Nat) (th : Nat → Int) (S0 : Nat) : Prop where
  ls : LS w W4 R M BA A0 p q th
  lt : ∀ k, Foot p k → k < S0
  ltA : BA < S0
  ltZ : w.heap.size + 1 < S0
  bS : Boxed W4 (S0 + 1) 47 (.slice (some ⟨S0, 0, none⟩) M M)
  sz : W4.heap.size = S0 + 3
  hR : 1 ≤ R ∧ R ≤ 20
  hM : M ≤ 199

structure RI (W4 : World) (M : Nat) (q : Nat → List Nat) (S0 r Br : Nat) (Ds : List Nat) (W : World) : Prop where
  mv : Mv W4 W (fun k => k = S0 ∨ k = S0 + 2)
  sum : Boxed W (S0 + 2) 3 (.int .i64 (total q r : Nat))
  seen : Row W 4 1 (.slice (some ⟨S0, 0, none⟩) M M) M (fun j => .bool (sn q r j))
  row : Boxed W Br 3 (.int .i64 (r : Nat))
  geR : S0 + 3 ≤ Br
  ds : ∀ D, D ∈ Ds → S0 + 3 ≤ D ∧ W.heap[D]? = some (.deferred (some []))
  nd : Ds.Nodup

theorem BaseR.rep {w W4 W : World} {R M BA A0 : Nat} {p : Pl} {q : Nat → List Nat} {th : Nat → Int} {S0 : Nat} (h : BaseR w W4 R M BA A0 p q th S0) (m : ∀ k, k < S0 → W.heap[k]? = W4.heap[k]?) : RepI W p R M q th := h.ls.rep.kps (fun k hk => m k (h.lt k hk))
theorem Mv.low {W4 W : World} {S0 : Nat} (m : Mv W4 W (fun k => k = S0 ∨ k = S0 + 2)) (hs : W4.heap.size = S0 + 3) : ∀ k, k < S0 → W.heap[k]? = W4.heap[k]? := fun k hk => m.block k (by omega) (fun e => by omega)
theorem total_le (q : Nat → List Nat) (r n : Nat) (h : r ≤ n) : total q r ≤ total q n := by
  induction n with
  | zero => obtain rfl : r = 0 := by omega
            exact Nat.le_refl _
  | succ n ih =>
    by_cases e : r = n + 1
    · subst e; exact Nat.le_refl _
    · have := ih (by omega)
      have e2 : total q (n + 1) = total q n + (q n).length := rfl
      omega

/-- What holds between two rounds of the walk through row r. -/
structure IB (W0 : World) (M : Nat) (q : Nat → List Nat) (r S0 Bt Bl k : Nat) (W : World) : Prop where
  mv : Mv W0 W (fun b => b = S0 ∨ b = S0 + 2 ∨ b = Bt ∨ b = Bl)
  att : Boxed W Bt 3 (.int .i64 (nth (q r) k))
  long : Boxed W Bl 3 (.int .i64 (((q r).length : Int) - k))
  sum : Boxed W (S0 + 2) 3 (.int .i64 ((total q r : Int) + k))
  seen : Row W 4 1 (.slice (some ⟨S0, 0, none⟩) M M) M (fun j => .bool (snk q r k j))
theorem ib_own (W0 : World) (M : Nat) (q : Nat → List Nat) (r S0 Bt Bl : Nat) : OwnFrom W0.heap.size (fun (pre : List Nat) W => pre = List.range pre.length ∧ IB W0 M q r S0 Bt Bl pre.length W) := by
  intro pre W W' row hs hg hr
  obtain ⟨hp, h⟩ := hs
  have hr2 : ∀ x, row = some x → ∃ o : Obj, W.heap[x]? = some o ∧ o.isCells = false := fun x e => (hr x e).2
  refine ⟨hp, h.mv.grown hg (fun k e => .inr (hr k e).1), ?_, ?_, ?_, h.seen.of_block (fun k hk => hg.block k (h.seen.lt k hk) (fun e => ?_))⟩
  · exact boxed_own Bt 3 (fun (_ : Unit) => _) () W W' row h.att hg hr2
  · exact boxed_own Bl 3 (fun (_ : Unit) => _) () W W' row h.long hg hr2
  · exact boxed_own (S0 + 2) 3 (fun (_ : Unit) => _) () W W' row h.sum hg hr2
  · obtain ⟨o, ho, hc⟩ := hr2 k e.symm
    obtain ⟨c, fz, hk2⟩ := h.seen.kind k hk
    rw [hk2] at ho
    cases ho
    cases hc
theorem nth_ne {l : List Nat} (hd : l.Nodup) {k x : Nat} (hk : k < l.length) (hx : x ≠ k) : nth l x ≠ nth l k := by
  obtain ⟨n, hn, hv⟩ := nth_lt hk
  rw [hv]
  intro e
  by_cases h : x < l.length
  · obtain ⟨m, hm, hv'⟩ := nth_lt h
    rw [hv'] at e
    obtain rfl : m = n := by omega
    exact hx (pos_inj hd hm hn)
  · rw [nth_none (by omega)] at e; omega
theorem not_prefix {pre : List Nat} {x m : Nat} (hx : x ≠ pre.length) : ¬ (pre ++ [x]) <+: List.range m := by
  rintro ⟨r, hr⟩
  have h1 : (List.range m)[pre.length]? = some x := by rw [← hr]; simp
  by_cases h : pre.length < m
  · rw [List.getElem?_range h] at h1
    exact hx (Option.some.inj h1).symm
  · rw [List.getElem?_eq_none (by simpa using Nat.le_of_not_lt h)] at h1
    cases h1
theorem kps_mv {W W' : World} {K F : Nat → Prop} (m : Mv W W' F) (hK : ∀ k, K k → k < W.heap.size ∧ ¬ F k) : Kps K W W' := ⟨m.size, fun k hk => m.block k (hK k hk).1 (hK k hk).2⟩
theorem keeps_mv {W W' : World} {F : Nat → Prop} (m : Mv W W' F) (B : Nat) (hF : ∀ k, F k → ∀ o, W.heap[k]? = some o → o.isCells = true) : KeepsFrom B W W' :=
  ⟨m.size, fun k o _ hk ho => (m.block k (Array.getElem?_eq_some_iff.1 hk).1 (fun e => by rw [hF k e o hk] at ho; cases ho)).trans hk⟩

set_option maxRecDepth 1000000 in
def WIr (w W4 : World) (R M BA : Nat) (q : Nat → List Nat) (S0 : Nat) (c1 c2 c3 c5 c7 c9 c10 c21 c22 c23 c24 c25 c26 c27 c28 c29 c30 c31 c32 c33 c34 c35 c36 c37 c38 c39 c40 c41 c42 c43 c44 c45 c46 c47 c48 c49 c50 c51 c52 c53 c54 c55 c56 c57 c58 c59 c60 c61 c62 c63 c64 c65 c66 c67 c68 c69 c70 c71 c72 c73 c74 c75 c76 c77 c78 c79 c80 c81 c82 c83 c84 c85 c86 c87 c88 c89 c90 c91 c92 c93 c94 c95 c96 c97 c98 c99 c100 c101 c102 c103 c176 c177 c178 c179 c180 c181 c182 c183 c184 c185 : Value) (a : Act) (W : World) : Prop :=
  ∃ (r Br : Nat) (Ds : List Nat) (u14 u15 u16 u17 u18 u19 u20 u104 u105 u106 u107 u108 u109 u110 u111 u112 u113 u114 u115 u116 u117 u118 u119 u120 u121 u122 u123 u124 u125 u126 u127 u128 u129 u130 u131 u132 u133 u134 u135 u136 u137 u138 u139 u140 u141 u142 u143 u144 u145 u146 u147 u148 u149 u150 u151 u152 u153 u154 u155 u156 u157 u158 u159 u160 u161 u162 u163 u164 u165 u166 u167 u168 u169 u170 u171 u172 u173 u174 u175 : Value), (r ≤ R ∧ RI W4 M q S0 r Br Ds W) ∧ a = ⟨#[.int .i64 (R : Int), c1, c2, c3, .pointer (some ⟨w.heap.size, 0, none⟩), c5, .pointer (some ⟨w.heap.size + 1, 0, none⟩), c7, .pointer (some ⟨BA, 0, none⟩), c9, c10, .pointer (some ⟨S0 + 1, 0, none⟩), .pointer (some ⟨S0 + 2, 0, none⟩), .pointer (some ⟨Br, 0, none⟩), u14, u15, u16, u17, u18, u19, u20, c21, c22, c23, c24, c25, c26, c27, c28, c29, c30, c31, c32, c33, c34, c35, c36, c37, c38, c39, c40, c41, c42, c43, c44, c45, c46, c47, c48, c49, c50, c51, c52, c53, c54, c55, c56, c57, c58, c59, c60, c61, c62, c63, c64, c65, c66, c67, c68, c69, c70, c71, c72, c73, c74, c75, c76, c77, c78, c79, c80, c81, c82, c83, c84, c85, c86, c87, c88, c89, c90, c91, c92, c93, c94, c95, c96, c97, c98, c99, c100, c101, c102, c103, u104, u105, u106, u107, u108, u109, u110, u111, u112, u113, u114, u115, u116, u117, u118, u119, u120, u121, u122, u123, u124, u125, u126, u127, u128, u129, u130, u131, u132, u133, u134, u135, u136, u137, u138, u139, u140, u141, u142, u143, u144, u145, u146, u147, u148, u149, u150, u151, u152, u153, u154, u155, u156, u157, u158, u159, u160, u161, u162, u163, u164, u165, u166, u167, u168, u169, u170, u171, u172, u173, u174, u175, c176, c177, c178, c179, c180, c181, c182, c183, c184, c185], Ds.map mark⟩
set_option maxRecDepth 1000000 in
def WXr (w W4 : World) (R M BA : Nat) (q : Nat → List Nat) (S0 : Nat) (c1 c2 c3 c5 c7 c9 c10 c21 c22 c23 c24 c25 c26 c27 c28 c29 c30 c31 c32 c33 c34 c35 c36 c37 c38 c39 c40 c41 c42 c43 c44 c45 c46 c47 c48 c49 c50 c51 c52 c53 c54 c55 c56 c57 c58 c59 c60 c61 c62 c63 c64 c65 c66 c67 c68 c69 c70 c71 c72 c73 c74 c75 c76 c77 c78 c79 c80 c81 c82 c83 c84 c85 c86 c87 c88 c89 c90 c91 c92 c93 c94 c95 c96 c97 c98 c99 c100 c101 c102 c103 c176 c177 c178 c179 c180 c181 c182 c183 c184 c185 : Value) (a : Act) (W : World) : Prop :=
  ∃ (Br : Nat) (Ds : List Nat) (u14 u15 u16 u17 u18 u19 u20 u104 u105 u106 u107 u108 u109 u110 u111 u112 u113 u114 u115 u116 u117 u118 u119 u120 u121 u122 u123 u124 u125 u126 u127 u128 u129 u130 u131 u132 u133 u134 u135 u136 u137 u138 u139 u140 u141 u142 u143 u144 u145 u146 u147 u148 u149 u150 u151 u152 u153 u154 u155 u156 u157 u158 u159 u160 u161 u162 u163 u164 u165 u166 u167 u168 u169 u170 u171 u172 u173 u174 u175 : Value), RI W4 M q S0 R Br Ds W ∧ a = ⟨#[.int .i64 (R : Int), c1, c2, c3, .pointer (some ⟨w.heap.size, 0, none⟩), c5, .pointer (some ⟨w.heap.size + 1, 0, none⟩), c7, .pointer (some ⟨BA, 0, none⟩), c9, c10, .pointer (some ⟨S0 + 1, 0, none⟩), .pointer (some ⟨S0 + 2, 0, none⟩), .pointer (some ⟨Br, 0, none⟩), u14, u15, u16, u17, u18, u19, u20, c21, c22, c23, c24, c25, c26, c27, c28, c29, c30, c31, c32, c33, c34, c35, c36, c37, c38, c39, c40, c41, c42, c43, c44, c45, c46, c47, c48, c49, c50, c51, c52, c53, c54, c55, c56, c57, c58, c59, c60, c61, c62, c63, c64, c65, c66, c67, c68, c69, c70, c71, c72, c73, c74, c75, c76, c77, c78, c79, c80, c81, c82, c83, c84, c85, c86, c87, c88, c89, c90, c91, c92, c93, c94, c95, c96, c97, c98, c99, c100, c101, c102, c103, u104, u105, u106, u107, u108, u109, u110, u111, u112, u113, u114, u115, u116, u117, u118, u119, u120, u121, u122, u123, u124, u125, u126, u127, u128, u129, u130, u131, u132, u133, u134, u135, u136, u137, u138, u139, u140, u141, u142, u143, u144, u145, u146, u147, u148, u149, u150, u151, u152, u153, u154, u155, u156, u157, u158, u159, u160, u161, u162, u163, u164, u165, u166, u167, u168, u169, u170, u171, u172, u173, u174, u175, c176, c177, c178, c179, c180, c181, c182, c183, c184, c185], Ds.map mark⟩
open Classical in
/-- How many rows are still to come: read off the box to which slot 13 points. -/
def muOf (u : Value) (R : Nat) (a : Act) (W : World) : Nat := match a.tmps.getD 13 u with
  | .pointer (some ad) => match W.cell? ad with
    | some v => R - (intOf v).toNat
    | none => 0
  | _ => 0

end Go.Proofs.Ythkdmjbdcnaklaa
