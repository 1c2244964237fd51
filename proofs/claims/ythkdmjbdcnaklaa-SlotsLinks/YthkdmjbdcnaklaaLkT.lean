/-
  The rows' loop of SlotsLinks: a round.
-/
import Derived.Test.YthkdmjbdcnaklaaLkR
namespace Go.Proofs.Ythkdmjbdcnaklaa
open Go.RowKit Go.Shelf
set_option linter.unusedVariables false
attribute [local go_sem] Oper.semAt_some

set_option maxRecDepth 1000000 in
set_option maxHeartbeats 8000000 in
theorem rowGo (w W4 : World) (R M BA A0 : Nat) (p : Pl) (q : Nat → List Nat) (th : Nat → Int) (S0 : Nat) (hB : BaseR w W4 R M BA A0 p q th S0) (c1 c2 c3 c5 c7 c9 c10 c21 c22 c23 c24 c25 c26 c27 c28 c29 c30 c31 c32 c33 c34 c35 c36 c37 c38 c39 c40 c41 c42 c43 c44 c45 c46 c47 c48 c49 c50 c51 c52 c53 c54 c55 c56 c57 c58 c59 c60 c61 c62 c63 c64 c65 c66 c67 c68 c69 c70 c71 c72 c73 c74 c75 c76 c77 c78 c79 c80 c81 c82 c83 c84 c85 c86 c87 c88 c89 c90 c91 c92 c93 c94 c95 c96 c97 c98 c99 c100 c101 c102 c103 c176 c177 c178 c179 c180 c181 c182 c183 c184 c185 : Value) (Q0 : Exit → Act → World → Prop) (u14 u15 u16 u17 u18 u19 u20 u104 u105 u106 u107 u108 u109 u110 u111 u112 u113 u114 u115 u116 u117 u118 u119 u120 u121 u122 u123 u124 u125 u126 u127 u128 u129 u130 u131 u132 u133 u134 u135 u136 u137 u138 u139 u140 u141 u142 u143 u144 u145 u146 u147 u148 u149 u150 u151 u152 u153 u154 u155 u156 u157 u158 u159 u160 u161 u162 u163 u164 u165 u166 u167 u168 u169 u170 u171 u172 u173 u174 u175 : Value) (r Br : Nat) (Ds : List Nat) (hlt : r < R) (wr : World) (hI : RI W4 M q S0 r Br Ds wr) :
    Code.wp Try.prog (rowsOf Try.f4.body) (Exit.then (fun a' w'' => WIr w W4 R M BA q S0 c1 c2 c3 c5 c7 c9 c10 c21 c22 c23 c24 c25 c26 c27 c28 c29 c30 c31 c32 c33 c34 c35 c36 c37 c38 c39 c40 c41 c42 c43 c44 c45 c46 c47 c48 c49 c50 c51 c52 c53 c54 c55 c56 c57 c58 c59 c60 c61 c62 c63 c64 c65 c66 c67 c68 c69 c70 c71 c72 c73 c74 c75 c76 c77 c78 c79 c80 c81 c82 c83 c84 c85 c86 c87 c88 c89 c90 c91 c92 c93 c94 c95 c96 c97 c98 c99 c100 c101 c102 c103 c176 c177 c178 c179 c180 c181 c182 c183 c184 c185 a' w'' ∧ (muOf undef) R a' w'' < (muOf undef) R ⟨#[.int .i64 (R : Int), c1, c2, c3, .pointer (some ⟨w.heap.size, 0, none⟩), c5, .pointer (some ⟨w.heap.size + 1, 0, none⟩), c7, .pointer (some ⟨BA, 0, none⟩), c9, c10, .pointer (some ⟨S0 + 1, 0, none⟩), .pointer (some ⟨S0 + 2, 0, none⟩), .pointer (some ⟨Br, 0, none⟩), u14, u15, u16, u17, u18, u19, u20, c21, c22, c23, c24, c25, c26, c27, c28, c29, c30, c31, c32, c33, c34, c35, c36, c37, c38, c39, c40, c41, c42, c43, c44, c45, c46, c47, c48, c49, c50, c51, c52, c53, c54, c55, c56, c57, c58, c59, c60, c61, c62, c63, c64, c65, c66, c67, c68, c69, c70, c71, c72, c73, c74, c75, c76, c77, c78, c79, c80, c81, c82, c83, c84, c85, c86, c87, c88, c89, c90, c91, c92, c93, c94, c95, c96, c97, c98, c99, c100, c101, c102, c103, u104, u105, u106, u107, u108, u109, u110, u111, u112, u113, u114, u115, u116, u117, u118, u119, u120, u121, u122, u123, u124, u125, u126, u127, u128, u129, u130, u131, u132, u133, u134, u135, u136, u137, u138, u139, u140, u141, u142, u143, u144, u145, u146, u147, u148, u149, u150, u151, u152, u153, u154, u155, u156, u157, u158, u159, u160, u161, u162, u163, u164, u165, u166, u167, u168, u169, u170, u171, u172, u173, u174, u175, c176, c177, c178, c179, c180, c181, c182, c183, c184, c185], Ds.map mark⟩ wr) Q0) ⟨#[.int .i64 (R : Int), c1, c2, c3, .pointer (some ⟨w.heap.size, 0, none⟩), c5, .pointer (some ⟨w.heap.size + 1, 0, none⟩), c7, .pointer (some ⟨BA, 0, none⟩), c9, c10, .pointer (some ⟨S0 + 1, 0, none⟩), .pointer (some ⟨S0 + 2, 0, none⟩), .pointer (some ⟨Br, 0, none⟩), u14, u15, u16, u17, u18, u19, u20, c21, c22, c23, c24, c25, c26, c27, c28, c29, c30, c31, c32, c33, c34, c35, c36, c37, c38, c39, c40, c41, c42, c43, c44, c45, c46, c47, c48, c49, c50, c51, c52, c53, c54, c55, c56, c57, c58, c59, c60, c61, c62, c63, c64, c65, c66, c67, c68, c69, c70, c71, c72, c73, c74, c75, c76, c77, c78, c79, c80, c81, c82, c83, c84, c85, c86, c87, c88, c89, c90, c91, c92, c93, c94, c95, c96, c97, c98, c99, c100, c101, c102, c103, u104, u105, u106, u107, u108, u109, u110, u111, u112, u113, u114, u115, u116, u117, u118, u119, u120, u121, u122, u123, u124, u125, u126, u127, u128, u129, u130, u131, u132, u133, u134, u135, u136, u137, u138, u139, u140, u141, u142, u143, u144, u145, u146, u147, u148, u149, u150, u151, u152, u153, u154, u155, u156, u157, u158, u159, u160, u161, u162, u163, u164, u165, u166, u167, u168, u169, u170, u171, u172, u173, u174, u175, c176, c177, c178, c179, c180, c181, c182, c183, c184, c185], Ds.map mark⟩ wr := by
  have cR := hI.row.cell
  have hrep : RepI wr p R M q th := hB.rep (hI.mv.low hB.sz)
  have low := hI.mv.low hB.sz
  have bA : Boxed wr BA 24 (.pointer (some ⟨A0, 0, none⟩)) := (low _ hB.ltA).trans hB.ls.bA
  have cA := bA.cell
  have hlt2 : (r : Int) < (R : Int) := by omega
  have cF := rep_firstI hrep hlt
  rw [hB.ls.A] at cF
  have HI : Hid (RI W4 M q S0 r Br Ds wr) := hI
  clear hI
  conv => arg 2; whnf
  go_wp2_with fail
  refine cF.mono ?_
  rintro e w5 ⟨rfl, rfl⟩
  have bR := HI.out.row
  have bA6 := bA.alloc (.cells #[.int .i64 (nth (q r) 0)] 3)
  have bR6 := bR.alloc (.cells #[.int .i64 (nth (q r) 0)] 3)
  have bT6 := Boxed.new w5 3 (.int .i64 (nth (q r) 0))
  have cA6 := bA6.cell
  have cR6 := bR6.cell
  have hrep6 : RepI (w5.alloc (.cells #[.int .i64 (nth (q r) 0)] 3)) p R M q th := hrep.quiet ((Mv.refl w5 _).alloc _)
  have cL := rep_lenI hrep6 hlt
  rw [hB.ls.A] at cL
  clear cF
  go_wp2_with fail
  refine cL.mono ?_
  rintro e w6 ⟨rfl, hw6⟩
  have s6 : w6.heap.size = w5.heap.size + 1 := by rw [hw6]; simp
  have m6 : Mv w5 w6 (fun _ => False) := by rw [hw6]; exact (Mv.refl w5 _).alloc _
  rw [← hw6] at bA6 bR6 bT6 hrep6
  clear hw6 cL cA6 cR6 cR cA
  have bA7 := bA6.alloc (.cells #[.int .i64 ((q r).length : Nat)] 3)
  have bR7 := bR6.alloc (.cells #[.int .i64 ((q r).length : Nat)] 3)
  have bT7 := bT6.alloc (.cells #[.int .i64 ((q r).length : Nat)] 3)
  have bL7 := Boxed.new w6 3 (.int .i64 ((q r).length : Nat))
  have hrep7 : RepI (w6.alloc (.cells #[.int .i64 ((q r).length : Nat)] 3)) p R M q th := hrep6.quiet ((Mv.refl w6 _).alloc _)
  have cA7 := bA7.cell
  have cR7 := bR7.cell
  have cL7 := all_any ⟨A0, 0, none⟩ (r : Int) (w6.alloc (.cells #[.int .i64 ((q r).length : Nat)] 3))
  go_wp2_with fail
  refine cL7.mono ?_
  rintro e w8 ⟨rfl, hw8⟩
  have s8 : w8.heap.size = w5.heap.size + 4 := by rw [hw8]; simp; omega
  have m8 : Mv w5 w8 (fun _ => False) := by rw [hw8]; exact (((m6.alloc _).alloc _).alloc _)
  have bT8 : Boxed w8 w5.heap.size 3 (.int .i64 (nth (q r) 0)) := by rw [hw8]; exact (bT7.alloc _).alloc _
  have bL8 : Boxed w8 (w5.heap.size + 1) 3 (.int .i64 ((q r).length : Nat)) := by rw [hw8, ← s6]; exact (bL7.alloc _).alloc _
  have bX8 : Boxed w8 (w5.heap.size + 2) 24 (.pointer (some ⟨A0, 0, none⟩)) := by
    have := (Boxed.new (w6.alloc (.cells #[.int .i64 ((q r).length : Nat)] 3)) 24 (.pointer (some ⟨A0, 0, none⟩))).alloc (.cells #[.int .i64 (r : Int)] 3)
    rw [World.size_alloc, s6] at this
    rw [hw8]; exact this
  have bY8 : Boxed w8 (w5.heap.size + 3) 3 (.int .i64 (r : Int)) := by
    have := Boxed.new ((w6.alloc (.cells #[.int .i64 ((q r).length : Nat)] 3)).alloc (.cells #[.pointer (some ⟨A0, 0, none⟩)] 24)) 3 (.int .i64 (r : Int))
    rw [World.size_alloc, World.size_alloc, s6] at this
    rw [hw8]; exact this
  have hrep8 : RepI w8 p R M q th := by rw [hw8]; exact hrep7.quiet (((Mv.refl _ _).alloc _).alloc _)
  rw [show (w6.alloc (Obj.cells #[Value.int IntKind.i64 ((q r).length : Nat)] 3)).heap.size = w5.heap.size + 2 by rw [World.size_alloc, s6]]
  clear hw8 cL7 cA7 cR7 bA7 bR7 bT7 bL7 hrep7 hrep6 bA6 bR6 bT6
  have hfz := HI.out.geR
  have hq : Asked R q (r : Int) (q r) := ⟨.inl ⟨r, rfl, hlt, rfl⟩⟩
  have S5 : S0 + 3 ≤ w5.heap.size := by have := HI.out.mv.size; rw [hB.sz] at this; exact this
  have hcb := bX8.cell
  rw [← hB.ls.A] at hcb
  have h0 : IB w8 M q r S0 w5.heap.size (w5.heap.size + 1) 0 w8 := by
    refine ⟨Mv.refl _ _, bT8, ?_, ?_, ?_⟩
    · simpa using bL8
    · have := (m8.block _ HI.out.sum.lt (fun e => e)).trans HI.out.sum
      exact this
    · have := m8.row HI.out.seen (fun _ _ e => e)
      exact this.congr (fun j _ => by rw [snk_zero])
  go_wp2_with fail
  refine (wpIn_wide (n := 9)).1 ?_
  refine wpIn_rangeFunc_ownH rfl (by omega) (gf := 50) (lb := #[.pointer (some ⟨w5.heap.size + 2, 0, none⟩), .pointer (some ⟨w5.heap.size + 3, 0, none⟩)]) rfl trivial (enters_of Try.func50 (by kernel_rfl) rfl)
    (all_stops 8 (by omega) (w5.heap.size + 2) (w5.heap.size + 3) p R M q th r (q r) hq w8 hrep8 hcb bY8.cell)
    (fun h k => h.trans k) ?hKb (Below.refl _ _) (fun _ => rfl)
    (fun pre W => pre = List.range pre.length ∧ IB w8 M q r S0 w5.heap.size (w5.heap.size + 1) pre.length W)
    (fun _ pre _ => ¬ pre <+: List.range (q r).length)
    (ib_own _ _ _ _ _ _ _) (fun c => ownFrom_pure _ _) ⟨rfl, h0⟩ ?Ax ?hAx ?assign ?body ?done ?stop
  case hKb =>
    intro W l o o' hl _ _ _
    refine ⟨by simp, fun k hk => World.putObj_heap_other ?_⟩
    rcases hk with e | e | e
    · have := hB.lt k e; omega
    · omega
    · omega
  case Ax => exact fun x a' _ => ∃ (v18 v19 v20 v104 v105 v106 v107 v108 v109 v110 v111 v112 v113 v114 v115 v116 v117 v118 v119 v120 v121 v122 v123 v124 v125 v126 v127 v128 v129 v130 v131 v132 v133 v134 v135 v136 v137 v138 v139 v140 v141 v142 v143 v144 v145 v146 v147 v148 v149 v150 v151 v152 v153 v154 v155 v156 v157 v158 v159 v160 v161 v162 v163 v164 v165 v166 v167 v168 v169 v170 v171 v172 v173 v174 v175 : Value), a' = ⟨#[.int .i64 (R : Int), c1, c2, c3, .pointer (some ⟨w.heap.size, 0, none⟩), c5, .pointer (some ⟨w.heap.size + 1, 0, none⟩), c7, .pointer (some ⟨BA, 0, none⟩), c9, c10, .pointer (some ⟨S0 + 1, 0, none⟩), .pointer (some ⟨S0 + 2, 0, none⟩), .pointer (some ⟨Br, 0, none⟩), .pointer (some ⟨w5.heap.size, 0, none⟩), .pointer (some ⟨w5.heap.size + 1, 0, none⟩), .int .i64 (nth (q r) x), .int .i64 (th (nth (q r) x).toNat), v18, v19, v20, c21, c22, c23, c24, c25, c26, c27, c28, c29, c30, c31, c32, c33, c34, c35, c36, c37, c38, c39, c40, c41, c42, c43, c44, c45, c46, c47, c48, c49, c50, c51, c52, c53, c54, c55, c56, c57, c58, c59, c60, c61, c62, c63, c64, c65, c66, c67, c68, c69, c70, c71, c72, c73, c74, c75, c76, c77, c78, c79, c80, c81, c82, c83, c84, c85, c86, c87, c88, c89, c90, c91, c92, c93, c94, c95, c96, c97, c98, c99, c100, c101, c102, c103, v104, v105, v106, v107, v108, v109, v110, v111, v112, v113, v114, v115, v116, v117, v118, v119, v120, v121, v122, v123, v124, v125, v126, v127, v128, v129, v130, v131, v132, v133, v134, v135, v136, v137, v138, v139, v140, v141, v142, v143, v144, v145, v146, v147, v148, v149, v150, v151, v152, v153, v154, v155, v156, v157, v158, v159, v160, v161, v162, v163, v164, v165, v166, v167, v168, v169, v170, v171, v172, v173, v174, v175, c176, c177, c178, c179, c180, c181, c182, c183, c184, c185], []⟩
  case hAx => exact fun _ _ _ _ _ _ hs _ _ => hs
  case assign =>
    rintro l pre x W K hi hK
    unfold encA
    gi_wp2
    exact hK _ _ (KeepsFrom.refl _ _) (Kps.refl _ _) hi ⟨_, _, _, _, _, _, _, _, _, _, _, _, _, _, _, _, _, _, _, _, _, _, _, _, _, _, _, _, _, _, _, _, _, _, _, _, _, _, _, _, _, _, _, _, _, _, _, _, _, _, _, _, _, _, _, _, _, _, _, _, _, _, _, _, _, _, _, _, _, _, _, _, _, _, _, rfl⟩
  case body =>
    rintro l pre x a' W hl _ ⟨hp, hib⟩ hax hlen
    obtain ⟨v18, hax⟩ := hax
    obtain ⟨v19, hax⟩ := hax
    obtain ⟨v20, hax⟩ := hax
    obtain ⟨v104, hax⟩ := hax
    obtain ⟨v105, hax⟩ := hax
    obtain ⟨v106, hax⟩ := hax
    obtain ⟨v107, hax⟩ := hax
    obtain ⟨v108, hax⟩ := hax
    obtain ⟨v109, hax⟩ := hax
    obtain ⟨v110, hax⟩ := hax
    obtain ⟨v111, hax⟩ := hax
    obtain ⟨v112, hax⟩ := hax
    obtain ⟨v113, hax⟩ := hax
    obtain ⟨v114, hax⟩ := hax
    obtain ⟨v115, hax⟩ := hax
    obtain ⟨v116, hax⟩ := hax
    obtain ⟨v117, hax⟩ := hax
    obtain ⟨v118, hax⟩ := hax
    obtain ⟨v119, hax⟩ := hax
    obtain ⟨v120, hax⟩ := hax
    obtain ⟨v121, hax⟩ := hax
    obtain ⟨v122, hax⟩ := hax
    obtain ⟨v123, hax⟩ := hax
    obtain ⟨v124, hax⟩ := hax
    obtain ⟨v125, hax⟩ := hax
    obtain ⟨v126, hax⟩ := hax
    obtain ⟨v127, hax⟩ := hax
    obtain ⟨v128, hax⟩ := hax
    obtain ⟨v129, hax⟩ := hax
    obtain ⟨v130, hax⟩ := hax
    obtain ⟨v131, hax⟩ := hax
    obtain ⟨v132, hax⟩ := hax
    obtain ⟨v133, hax⟩ := hax
    obtain ⟨v134, hax⟩ := hax
    obtain ⟨v135, hax⟩ := hax
    obtain ⟨v136, hax⟩ := hax
    obtain ⟨v137, hax⟩ := hax
    obtain ⟨v138, hax⟩ := hax
    obtain ⟨v139, hax⟩ := hax
    obtain ⟨v140, hax⟩ := hax
    obtain ⟨v141, hax⟩ := hax
    obtain ⟨v142, hax⟩ := hax
    obtain ⟨v143, hax⟩ := hax
    obtain ⟨v144, hax⟩ := hax
    obtain ⟨v145, hax⟩ := hax
    obtain ⟨v146, hax⟩ := hax
    obtain ⟨v147, hax⟩ := hax
    obtain ⟨v148, hax⟩ := hax
    obtain ⟨v149, hax⟩ := hax
    obtain ⟨v150, hax⟩ := hax
    obtain ⟨v151, hax⟩ := hax
    obtain ⟨v152, hax⟩ := hax
    obtain ⟨v153, hax⟩ := hax
    obtain ⟨v154, hax⟩ := hax
    obtain ⟨v155, hax⟩ := hax
    obtain ⟨v156, hax⟩ := hax
    obtain ⟨v157, hax⟩ := hax
    obtain ⟨v158, hax⟩ := hax
    obtain ⟨v159, hax⟩ := hax
    obtain ⟨v160, hax⟩ := hax
    obtain ⟨v161, hax⟩ := hax
    obtain ⟨v162, hax⟩ := hax
    obtain ⟨v163, hax⟩ := hax
    obtain ⟨v164, hax⟩ := hax
    obtain ⟨v165, hax⟩ := hax
    obtain ⟨v166, hax⟩ := hax
    obtain ⟨v167, hax⟩ := hax
    obtain ⟨v168, hax⟩ := hax
    obtain ⟨v169, hax⟩ := hax
    obtain ⟨v170, hax⟩ := hax
    obtain ⟨v171, hax⟩ := hax
    obtain ⟨v172, hax⟩ := hax
    obtain ⟨v173, hax⟩ := hax
    obtain ⟨v174, hax⟩ := hax
    obtain ⟨v175, hax⟩ := hax
    subst hax
    have HP : Hid (pre = List.range pre.length) := hp
    clear hp
    have hnd := hrep8.nodup hlt
    have lowW : ∀ k, k < S0 → W.heap[k]? = W4.heap[k]? := fun k hk => ((hib.mv.block k (by omega) (fun e => by omega)).trans (m8.block k (by omega) (fun e => e))).trans (low k hk)
    have cT := hib.att.cell
    have fT := hib.att.frozen
    have bZ : Boxed W (w.heap.size + 1) 4 (.bool false) := (lowW _ hB.ltZ).trans hB.ls.bZ
    have cZ := bZ.cell
    have fZ := bZ.frozen
    by_cases hx : x = pre.length
    · obtain ⟨k, hk⟩ : ∃ k, pre.length = k := ⟨_, rfl⟩
      have HK : Hid (pre = List.range k) := by have := HP.out; rw [hk] at this; exact this
      rw [hk] at hib hx hlen cT
      clear HP hk
      subst hx
      obtain ⟨n, hn, hv⟩ := nth_lt hlen
      have hmem := some_mem hn
      have hnM := hrep8.below hlt hmem
      have hrepW : RepI W p R M q th := hB.rep lowW
      have bM : Boxed W w.heap.size 3 (.int .i64 M) := (lowW _ (by have := hB.ltZ; omega)).trans hB.ls.bM
      have bA' : Boxed W BA 24 (.pointer (some ⟨A0, 0, none⟩)) := (lowW _ hB.ltA).trans hB.ls.bA
      have bS' : Boxed W (S0 + 1) 47 (.slice (some ⟨S0, 0, none⟩) M M) := by
        have e1 : w5.heap[S0 + 1]? = W4.heap[S0 + 1]? := HI.out.mv.block _ (by have := hB.sz; omega) (fun e => by omega)
        exact (((hib.mv.block _ (by omega) (fun e => by omega)).trans (m8.block _ (by omega) (fun e => e))).trans e1).trans hB.bS
      have bR' : Boxed W Br 3 (.int .i64 (r : Nat)) := by
        have := HI.out.row.lt
        have := HI.out.geR
        exact ((hib.mv.block _ (by omega) (fun e => by omega)).trans (m8.block _ (by omega) (fun e => e))).trans HI.out.row
      have hsn : snk q r x n = false := by
        apply Bool.eq_false_iff.2
        intro e
        unfold snk at e
        rw [Bool.or_eq_true, sn_iff, List.contains_iff_mem] at e
        rcases e with ⟨i, hi, hm⟩ | hm
        · have := hrep8.apart (by omega) hlt hm hmem; omega
        · obtain ⟨j, hj⟩ := List.getElem?_of_mem hm
          rw [List.getElem?_take] at hj
          split at hj
          · rename_i hjk
            have := pos_inj hnd hj hn
            omega
          · cases hj
      have hsc := hib.seen.cell (j := n) (by omega)
      rw [hsn] at hsc
      have hsf := hib.seen.frozen n
      have m1 : Mv W (W.setCell ⟨S0, n, none⟩ (.bool true)) (fun b => b = S0) := (Mv.refl W (fun b => b = S0)).setCell (a := ⟨S0, n, none⟩) (Or.inl (rfl : S0 = S0)) _
      have hrep1 : RepI (W.setCell ⟨S0, n, none⟩ (.bool true)) p R M q th := hrepW.mv m1 (fun b hb e => by have := hB.lt b hb; omega)
      have bA1 : Boxed (W.setCell ⟨S0, n, none⟩ (.bool true)) BA 24 (.pointer (some ⟨A0, 0, none⟩)) := (m1.block _ bA'.lt (fun e => by have := hB.ltA; omega)).trans bA'
      have bR1 : Boxed (W.setCell ⟨S0, n, none⟩ (.bool true)) Br 3 (.int .i64 (r : Nat)) := (m1.block _ bR'.lt (fun e => by have := HI.out.geR; omega)).trans bR'
      have bT1 : Boxed (W.setCell ⟨S0, n, none⟩ (.bool true)) w5.heap.size 3 (.int .i64 (nth (q r) x)) := (m1.block _ hib.att.lt (fun e => by omega)).trans hib.att
      have bL1 : Boxed (W.setCell ⟨S0, n, none⟩ (.bool true)) (w5.heap.size + 1) 3 (.int .i64 (((q r).length : Int) - x)) := (m1.block _ hib.long.lt (fun e => by omega)).trans hib.long
      have bU1 : Boxed (W.setCell ⟨S0, n, none⟩ (.bool true)) (S0 + 2) 3 (.int .i64 ((total q r : Int) + x)) := (m1.block _ hib.sum.lt (fun e => by omega)).trans hib.sum
      have seen1 : Row (W.setCell ⟨S0, n, none⟩ (.bool true)) 4 1 (.slice (some ⟨S0, 0, none⟩) M M) M (fun j => .bool (snk q r (x + 1) j)) := (hib.seen.set n (.bool true)).congr (fun j _ => by rw [snk_succ hn]; split <;> rfl)
      have cG := CallsIn.inRound l ((callsIn_wide (n := 9 - 1 - 1 - 1)).2 (rep_get_yesI hrep1 hlt hmem))
      have cH := CallsIn.inRound l ((callsIn_wide (n := 9 - 1 - 1 - 1)).2 (rep_row hrep1 hlt hmem))
      have cX := CallsIn.inRound l ((callsIn_wide (n := 9 - 1 - 1 - 1)).2 (rep_nextI hrep1 hlt hn))
      rw [hB.ls.A] at cG cH cX
      have hbd := hrep8.bound
      have htot := total_le q (r + 1) R hlt
      have htot2 : total q (r + 1) = total q r + (q r).length := rfl
      rw [hv] at cT
      rw [hv, Int.toNat_natCast]
      have cM := bM.cell
      have cS := bS'.cell
      have cA1 := bA1.cell
      have cR1 := bR1.cell
      have hnn : ¬ ((n : Int) < 0) := by omega
      have hnM' : (n : Int) < (M : Int) := hnM
      have hnM2 : ¬ (M : Int) ≤ (n : Int) := by omega
      have bU2 := bU1.other (B' := w5.heap.size) (by omega) (.int .i64 (nth (q r) (x + 1)))
      have bL2 := bL1.other (B' := w5.heap.size) (by omega) (.int .i64 (nth (q r) (x + 1)))
      have bT2 := bT1.set (.int .i64 (nth (q r) (x + 1)))
      have bL3 := bL2.other (B' := S0 + 2) (by omega) (.int .i64 ((total q r : Int) + x + 1))
      have bT3 := bT2.other (B' := S0 + 2) (by omega) (.int .i64 ((total q r : Int) + x + 1))
      have bU3 := bU2.set (.int .i64 ((total q r : Int) + x + 1))
      have bL4 := bL3.set (.int .i64 (((q r).length : Int) - x - 1))
      have bT4 := bT3.other (B' := w5.heap.size + 1) (by omega) (.int .i64 (((q r).length : Int) - x - 1))
      have bU4 := bU3.other (B' := w5.heap.size + 1) (by omega) (.int .i64 (((q r).length : Int) - x - 1))
      have cT1 := bT1.cell
      have fT1 := bT1.frozen
      have cU2 := bU2.cell
      have fU2 := bU2.frozen
      have cL3 := bL3.cell
      have fL3 := bL3.frozen
      obtain ⟨WF, hWF⟩ : ∃ WF, (((W.setCell ⟨S0, n, none⟩ (.bool true)).setCell ⟨w5.heap.size, 0, none⟩ (.int .i64 (nth (q r) (x + 1)))).setCell ⟨S0 + 2, 0, none⟩ (.int .i64 ((total q r : Int) + x + 1))).setCell ⟨w5.heap.size + 1, 0, none⟩ (.int .i64 (((q r).length : Int) - x - 1)) = WF := ⟨_, rfl⟩
      have HF : Hid (KeepsFrom w8.heap.size W WF ∧ Kps (fun k => Foot p k ∨ k = w5.heap.size + 2 ∨ k = w5.heap.size + 3) W WF ∧ IB w8 M q r S0 w5.heap.size (w5.heap.size + 1) (x + 1) WF) := by
        have mF : Mv W WF (fun b => b = S0 ∨ b = S0 + 2 ∨ b = w5.heap.size ∨ b = w5.heap.size + 1) := by
          rw [← hWF]
          exact ((((Mv.refl W (fun b => b = S0 ∨ b = S0 + 2 ∨ b = w5.heap.size ∨ b = w5.heap.size + 1)).setCell (a := ⟨S0, n, none⟩) (.inl (.inl rfl)) _).setCell (a := ⟨w5.heap.size, 0, none⟩) (.inl (.inr (.inr (.inl rfl)))) _).setCell (a := ⟨S0 + 2, 0, none⟩) (.inl (.inr (.inl rfl))) _).setCell (a := ⟨w5.heap.size + 1, 0, none⟩) (.inl (.inr (.inr (.inr rfl)))) _
        refine ⟨?_, ⟨mF.size, fun k hk => mF.block k ?_ ?_⟩, hib.mv.trans mF (fun b e => .inl e), ?_, ?_, ?_, ?_⟩
        · rw [← hWF]
          exact ((((KeepsOthers.setCell _ _ _).trans (KeepsOthers.setCell _ _ _)).trans (KeepsOthers.setCell _ _ _)).trans (KeepsOthers.setCell _ _ _)).from _
        · have h8 := hib.mv.size
          rcases hk with e | e | e
          · have := hB.lt k e; omega
          · omega
          · omega
        · rintro (e | e | e | e) <;> rcases hk with e' | e' | e'
          all_goals first | omega | (have := hB.lt k e'; omega)
        · rw [← hWF]; exact bT4
        · rw [← hWF]
          have : ((q r).length : Int) - ((x + 1 : Nat) : Int) = ((q r).length : Int) - x - 1 := by omega
          rw [this]; exact bL4
        · rw [← hWF]
          have : (total q r : Int) + ((x + 1 : Nat) : Int) = (total q r : Int) + x + 1 := by omega
          rw [this]; exact bU4
        · rw [← hWF]
          refine seen1.of_block (fun k hk => ?_)
          have hk' : k = S0 := by simp [Value.ownBlock] at hk; exact hk.symm
          rw [Below.heap_setCell _ _ _ _ (by show k ≠ w5.heap.size + 1; omega), Below.heap_setCell _ _ _ _ (by show k ≠ S0 + 2; omega), Below.heap_setCell _ _ _ _ (by show k ≠ w5.heap.size; omega)]
      have HP2 : Hid (pre ++ [x] = List.range (pre ++ [x]).length ∧ (pre ++ [x]).length = x + 1) := by
        have e1 := HK.out
        have e2 : pre.length = x := by rw [e1]; simp
        refine ⟨?_, by simp [e2]⟩
        rw [List.length_append, e2, List.length_singleton, List.range_succ, ← e1]
      have HWF : Hid (_ = WF) := hWF
      clear hWF
      clear hib HK bT2 bU1 bL1 bT1 bU2 bL2 bL3 bT3 bU3 bL4 bT4 bU4 seen1 m1 lowW bM bA' bS' bR' hrepW hrep1 bA1 bR1
      gi_wp2_with (refine ⟨trivial, ?_⟩; first | (gi_at_call 21; refine cG.mono ?_; clear cG; rintro e w9 ⟨rfl, rfl⟩) | (gi_at_call 22; refine cH.mono ?_; clear cH; rintro e w9 ⟨rfl, rfl⟩) | (gi_at_call 23; refine cX.mono ?_; clear cX; rintro e w9 ⟨rfl, rfl⟩))
      have e := HWF.out
      obtain ⟨f1, f2, f3⟩ := HF.out
      rw [e]
      exact ⟨f1, f2, HP2.out.1, by rw [HP2.out.2]; exact f3⟩
    · have hne := nth_ne hnd hlen hx
      have hb : (nth (q r) x != nth (q r) pre.length) = true := bne_iff_ne.2 hne
      gi_wp2
      exact ⟨(KeepsOthers.setCell _ _ _).from _, not_prefix hx⟩
  case done =>
    rintro D xs W hD rfl ⟨_, hib⟩ hK
    rw [List.length_range] at hib
    have bT := hib.att
    rw [nth_none (Nat.le_refl _)] at bT
    have bL := hib.long
    rw [Int.sub_self] at bL
    have cT := bT.cell
    have cL := bL.cell
    have bR' : Boxed W Br 3 (.int .i64 (r : Nat)) := by
      have := HI.out.row.lt
      have := HI.out.geR
      exact ((hib.mv.block _ (by omega) (fun e => by omega)).trans (m8.block _ (by omega) (fun e => e))).trans HI.out.row
    have cR := bR'.cell
    have bN := Boxed.new W 3 (.int .i64 (r : Int))
    have cN := bN.cell
    have fN := bN.frozen
    have hR20 := hB.hR.2
    have HB : Hid (IB w8 M q r S0 w5.heap.size (w5.heap.size + 1) (q r).length W) := hib
    have HD : Hid (W.heap[D]? = some (.deferred (some []))) := hK
    clear hib hK bT bL
    have hcase : ∀ X : World, Boxed X W.heap.size 3 (.int .i64 ((r + 1 : Nat) : Int)) → Mv W X (fun _ => False) → RI W4 M q S0 (r + 1) W.heap.size (D :: Ds) X := by
      intro X hbx hmx
      have hib := HB.out
      have hI := HI.out
      have hsz := hib.mv.size
      have mW : Mv W4 W (fun k => k = S0 ∨ k = S0 + 2) := by
        have h1 := hI.mv.trans m8 (fun _ e => e.elim)
        exact h1.trans hib.mv (fun b e => by
          rcases e with e | e | e | e
          · exact .inl (.inl e)
          · exact .inl (.inr e)
          · exact .inr (by rw [hB.sz]; omega)
          · exact .inr (by rw [hB.sz]; omega))
      refine ⟨mW.trans hmx (fun _ e => e.elim), ?_, ?_, hbx, by omega, ?_, ?_⟩
      · have e1 : ((total q (r + 1) : Nat) : Int) = (total q r : Int) + ((q r).length : Nat) := by show ((total q r + (q r).length : Nat) : Int) = _; omega
        rw [e1]
        exact (hmx.block _ hib.sum.lt (fun e => e)).trans hib.sum
      · exact (hmx.row hib.seen (fun _ _ e => e)).congr (fun j _ => by rw [snk_full])
      · intro D' hD'
        rcases List.mem_cons.1 hD' with e | e
        · subst e
          exact ⟨by omega, (hmx.block _ (Array.getElem?_eq_some_iff.1 HD.out).1 (fun e => e)).trans HD.out⟩
        · obtain ⟨g1, g2⟩ := hI.ds D' e
          have hlt' := (Array.getElem?_eq_some_iff.1 g2).1
          have g3 : W.heap[D']? = some (.deferred (some [])) := by
            refine ((hib.mv.block D' (by omega) (fun e => ?_)).trans (m8.block D' hlt' (fun e => e))).trans g2
            rcases e with e | e | e | e <;> omega
          exact ⟨g1, (hmx.block _ (Array.getElem?_eq_some_iff.1 g3).1 (fun e => e)).trans g3⟩
      · refine List.nodup_cons.2 ⟨fun hm => ?_, hI.nd⟩
        have := (Array.getElem?_eq_some_iff.1 (hI.ds D hm).2).1
        omega
    have hcR5 := HI.out.row.cell
    go_wp2_with fail
    have hX1 : Boxed ((W.alloc (.cells #[.int .i64 (r : Int)] 3)).setCell ⟨W.heap.size, 0, none⟩ (.int .i64 ((r : Int) + 1))) W.heap.size 3 (.int .i64 ((r + 1 : Nat) : Int)) := by
      have := bN.set (.int .i64 ((r : Int) + 1))
      rwa [show ((r : Int) + 1) = ((r + 1 : Nat) : Int) by omega] at this ⊢
    have hX2 : Boxed (W.alloc (.cells #[.int .i64 ((r : Int) + 1)] 3)) W.heap.size 3 (.int .i64 ((r + 1 : Nat) : Int)) := by
      have := Boxed.new W 3 (.int .i64 ((r : Int) + 1))
      rwa [show ((r : Int) + 1) = ((r + 1 : Nat) : Int) by omega] at this ⊢
    have hM1 : Mv W ((W.alloc (.cells #[.int .i64 (r : Int)] 3)).setCell ⟨W.heap.size, 0, none⟩ (.int .i64 ((r : Int) + 1))) (fun _ => False) := ((Mv.refl W (fun _ => False)).alloc _).setCell (a := ⟨W.heap.size, 0, none⟩) (.inr (Nat.le_refl _)) _
    have hM2 : Mv W (W.alloc (.cells #[.int .i64 ((r : Int) + 1)] 3)) (fun _ => False) := (Mv.refl W (fun _ => False)).alloc _
    refine ⟨?_, ?_⟩
    · unfold WIr
      refine ⟨r + 1, W.heap.size, D :: Ds, _, _, _, _, _, _, _, _, _, _, _, _, _, _, _, _, _, _, _, _, _, _, _, _, _, _, _, _, _, _, _, _, _, _, _, _, _, _, _, _, _, _, _, _, _, _, _, _, _, _, _, _, _, _, _, _, _, _, _, _, _, _, _, _, _, _, _, _, _, _, _, _, _, _, _, _, _, _, _, ⟨by omega, ?_⟩, rfl⟩
      first
        | exact hcase _ hX1 hM1
        | exact hcase _ hX2 hM2
    · have hx1 := hX1.cell
      have hx2 := hX2.cell
      unfold muOf
      first
        | (show (match ((W.alloc (.cells #[.int .i64 (r : Int)] 3)).setCell ⟨W.heap.size, 0, none⟩ (.int .i64 ((r : Int) + 1))).cell? ⟨W.heap.size, 0, none⟩ with | some v => R - (intOf v).toNat | none => 0) < (match w5.cell? ⟨Br, 0, none⟩ with | some v => R - (intOf v).toNat | none => 0)
           rw [hx1, hcR5]
           simp only [intOf]
           omega)
        | (show (match (W.alloc (.cells #[.int .i64 ((r : Int) + 1)] 3)).cell? ⟨W.heap.size, 0, none⟩ with | some v => R - (intOf v).toNat | none => 0) < (match w5.cell? ⟨Br, 0, none⟩ with | some v => R - (intOf v).toNat | none => 0)
           rw [hx2, hcR5]
           simp only [intOf]
           omega)
  case stop =>
    intro D c pre W _ h1 h2 _
    exact absurd h1 h2

end Go.Proofs.Ythkdmjbdcnaklaa
