/-
  The acts' loop of SlotsLinks: a Push.
-/
import Derived.Test.YthkdmjbdcnaklaaLkA
namespace Go.Proofs.Ythkdmjbdcnaklaa
open Go.RowKit Go.Shelf

set_option maxRecDepth 1000000 in
set_option maxHeartbeats 4000000 in
theorem act1 (w : World) (R M BA A0 ll lc : Nat) (la : Option Addr) (A : Nat → Act4) (hA : Acts w la ll A) (hll : ll ≤ 9223372036854775807) (c0 c1 c3 c4 c5 c6 c7 c9 c11 c12 c13 c14 c15 c16 c17 c18 c19 c20 c21 c22 c23 c24 c25 c26 c27 c28 c29 c30 c31 c32 c33 c34 c35 c36 c37 c38 c39 c40 c41 c42 c43 c44 c45 c46 c47 c48 c49 c102 c103 c104 c105 c106 c107 c108 c109 c110 c111 c112 c113 c114 c115 c116 c117 c118 c119 c120 c121 c122 c123 c124 c125 c126 c127 c128 c129 c130 c131 c132 c133 c134 c135 c136 c137 c138 c139 c140 c141 c142 c143 c144 c145 c146 c147 c148 c149 c150 c151 c152 c153 c154 c155 c156 c157 c158 c159 c160 c161 c162 c163 c164 c165 c166 c167 c168 c169 c170 c171 c172 c173 c174 c175 c176 c177 c178 c179 c180 c181 c182 c183 c184 c185 : Value) (Q0 : Exit → Act → World → Prop) (u50 u51 u52 u53 u54 u55 u56 u57 u58 u59 u60 u61 u62 u63 u64 u65 u66 u67 u68 u69 u70 u71 u72 u73 u74 u75 u76 u77 u78 u79 u80 u81 u82 u83 u84 u85 u86 u87 u88 u89 u90 u91 u92 u93 u94 u95 u96 u97 u98 u99 u100 u101 : Value) (i : Nat) (hlt : i < ll) (wr : World) (hls : LSs w wr R M BA A0) (t : Int) (ht : (A i).k.tmod 4 = t) (t0 : t = 1) :
    Code.wp Try.prog (bodyOf Try.f4.body) (Exit.then (fun a' w'' => WIa w R M BA A0 ll lc la c0 c1 c3 c4 c5 c6 c7 c9 c11 c12 c13 c14 c15 c16 c17 c18 c19 c20 c21 c22 c23 c24 c25 c26 c27 c28 c29 c30 c31 c32 c33 c34 c35 c36 c37 c38 c39 c40 c41 c42 c43 c44 c45 c46 c47 c48 c49 c102 c103 c104 c105 c106 c107 c108 c109 c110 c111 c112 c113 c114 c115 c116 c117 c118 c119 c120 c121 c122 c123 c124 c125 c126 c127 c128 c129 c130 c131 c132 c133 c134 c135 c136 c137 c138 c139 c140 c141 c142 c143 c144 c145 c146 c147 c148 c149 c150 c151 c152 c153 c154 c155 c156 c157 c158 c159 c160 c161 c162 c163 c164 c165 c166 c167 c168 c169 c170 c171 c172 c173 c174 c175 c176 c177 c178 c179 c180 c181 c182 c183 c184 c185 a' w'' ∧ muA ll a' w'' < muA ll ⟨#[c0, c1, .slice la ll lc, c3, c4, c5, c6, c7, .pointer (some ⟨BA, 0, none⟩), c9, .int .i64 (i : Int), c11, c12, c13, c14, c15, c16, c17, c18, c19, c20, c21, c22, c23, c24, c25, c26, c27, c28, c29, c30, c31, c32, c33, c34, c35, c36, c37, c38, c39, c40, c41, c42, c43, c44, c45, c46, c47, c48, c49, u50, u51, u52, u53, u54, u55, u56, u57, u58, u59, u60, u61, u62, u63, u64, u65, u66, u67, u68, u69, u70, u71, u72, u73, u74, u75, u76, u77, u78, u79, u80, u81, u82, u83, u84, u85, u86, u87, u88, u89, u90, u91, u92, u93, u94, u95, u96, u97, u98, u99, u100, u101, c102, c103, c104, c105, c106, c107, c108, c109, c110, c111, c112, c113, c114, c115, c116, c117, c118, c119, c120, c121, c122, c123, c124, c125, c126, c127, c128, c129, c130, c131, c132, c133, c134, c135, c136, c137, c138, c139, c140, c141, c142, c143, c144, c145, c146, c147, c148, c149, c150, c151, c152, c153, c154, c155, c156, c157, c158, c159, c160, c161, c162, c163, c164, c165, c166, c167, c168, c169, c170, c171, c172, c173, c174, c175, c176, c177, c178, c179, c180, c181, c182, c183, c184, c185], []⟩ wr) Q0) ⟨#[c0, c1, .slice la ll lc, c3, c4, c5, c6, c7, .pointer (some ⟨BA, 0, none⟩), c9, .int .i64 (i : Int), c11, c12, c13, c14, c15, c16, c17, c18, c19, c20, c21, c22, c23, c24, c25, c26, c27, c28, c29, c30, c31, c32, c33, c34, c35, c36, c37, c38, c39, c40, c41, c42, c43, c44, c45, c46, c47, c48, c49, u50, u51, u52, u53, u54, u55, u56, u57, u58, u59, u60, u61, u62, u63, u64, u65, u66, u67, u68, u69, u70, u71, u72, u73, u74, u75, u76, u77, u78, u79, u80, u81, u82, u83, u84, u85, u86, u87, u88, u89, u90, u91, u92, u93, u94, u95, u96, u97, u98, u99, u100, u101, c102, c103, c104, c105, c106, c107, c108, c109, c110, c111, c112, c113, c114, c115, c116, c117, c118, c119, c120, c121, c122, c123, c124, c125, c126, c127, c128, c129, c130, c131, c132, c133, c134, c135, c136, c137, c138, c139, c140, c141, c142, c143, c144, c145, c146, c147, c148, c149, c150, c151, c152, c153, c154, c155, c156, c157, c158, c159, c160, c161, c162, c163, c164, c165, c166, c167, c168, c169, c170, c171, c172, c173, c174, c175, c176, c177, c178, c179, c180, c181, c182, c183, c184, c185], []⟩ wr := by
  obtain ⟨p, q, th, hls'⟩ := hls
  obtain ⟨b, off, rfl, hbl, hcell⟩ := hA (by omega)
  obtain ⟨hok, k0, k1, k2, k3⟩ := hcell i hlt
  clear hcell
  obtain ⟨⟨kk, kr, kn, kv⟩, hAi⟩ : ∃ a, A i = a := ⟨_, rfl⟩
  rw [hAi] at hok k0 k1 k2 k3 ht
  dsimp only at k0 k1 k2 k3 ht
  rw [← hls'.bel.cell (p := ⟨b, off + i * 4, none⟩) hbl] at k0
  rw [← hls'.bel.cell (p := ⟨b, off + i * 4 + 1, none⟩) hbl] at k1
  rw [← hls'.bel.cell (p := ⟨b, off + i * 4 + 2, none⟩) hbl] at k2
  rw [← hls'.bel.cell (p := ⟨b, off + i * 4 + 3, none⟩) hbl] at k3
  have hbA := hls'.bA.cell
  obtain ⟨⟨ok1, ok2⟩, ⟨ok3, ok4⟩, ⟨ok5, ok6⟩, ok7, ok8⟩ := hok
  have HL : Hid (LS w wr R M BA A0 p q th) := hls'
  have cP := push_tot hls'.drew.rep kr kv
  rw [hls'.A] at cP
  clear hls' hAi
  have e0 : (t == 0) = false := beq_false_of_ne (by omega)
  have e1 : (t == 1) = true := by rw [t0]; rfl
  clear t0
  conv => arg 2; whnf
  go_wp2_with fail
  refine wp_region_noPanic ?_
  go_region_with (go_at_call 15; refine cP.mono ?_; rintro e w5 ⟨⟨v, rfl⟩, hst⟩)
  all_goals refine NoPanic.normal ?_
  all_goals go_wp2_with fail
  all_goals
    refine ⟨?_, by simp [muA, intOf]; omega⟩
    unfold WIa
    refine ⟨i + 1, _, _, _, _, _, _, _, _, _, _, _, _, _, _, _, _, _, _, _, _, _, _, _, _, _, _, _, _, _, _, _, _, _, _, _, _, _, _, _, _, _, _, _, _, _, _, _, _, _, _, _, _, ⟨by omega, ?_⟩, rfl⟩
    exact HL.out.drew.step hst

end Go.Proofs.Ythkdmjbdcnaklaa
