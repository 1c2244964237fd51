/-
  The walk of SlotsLinks: First and Next go as All does; Row, Len and Free fit.
-/
import Derived.Test.YthkdmjbdcnaklaaLkU
import Derived.Deep.OwnRows
import Derived.Test.YthkdmjbdcnaklaaRowt
import Derived.Deep.Cut
namespace Go.Proofs.Ythkdmjbdcnaklaa
open Go.RowKit Go.Shelf

attribute [local go_sem] Oper.semAt_some

theorem result4 (tmps : Array Value) (W : World) (a : Addr) (h : tmps[6]?.getD undef = .pointer (some a)) (hc : W.cell? a = some (.bool true)) : (results Try.f4 tmps).run Try.prog W = .ok (.bool true) W := by
  simp [results, go_sem, h, hc]

def absN (x : Int) : Int := if x < 0 then -(x + 1) else x
theorem absN_bd (x : Int) (h0 : -9223372036854775808 ≤ x) (h1 : x ≤ 9223372036854775807) : 0 ≤ absN x ∧ absN x ≤ 9223372036854775807 := by unfold absN; split <;> omega

set_option maxRecDepth 100000 in
set_option maxHeartbeats 4000000 in
theorem links_any (rows room : Int) (hr0 : -9223372036854775808 ≤ rows) (hr1 : rows ≤ 9223372036854775807) (hm0 : -9223372036854775808 ≤ room) (hm1 : room ≤ 9223372036854775807)
    (la : Option Addr) (ll lc : Nat) (A : Nat → Act4) (w : World) (hA : Acts w la ll A) (hll : ll ≤ 9223372036854775807) :
    Calls Try.prog 4 #[.int .i64 rows, .int .i64 room, .slice la ll lc] w fun e w' => e = .returned (.bool true) ∧ Below w.heap.size w w' := by
  obtain ⟨ra, hra⟩ : ∃ x, absN rows = x := ⟨_, rfl⟩
  obtain ⟨ma, hma⟩ : ∃ x, absN room = x := ⟨_, rfl⟩
  have bra := absN_bd rows hr0 hr1
  have bma := absN_bd room hm0 hm1
  rw [hra] at bra
  rw [hma] at bma
  refine (callsIn_wide (n := 3)).1 (callsIn_of_wp_marks Try.func4 rfl trivial ?_ rfl)
  refine wpIn_wide.2 ?_
  simp only [Try.ntmps4, List.size_toArray, List.length_cons, List.length_nil, Nat.reduceAdd, Nat.reduceSub, Array.replicate_succ, Array.replicate_zero, List.push_toArray, List.append_toArray, List.nil_append, List.cons_append]
  go_wp2_with fail
  obtain ⟨w0, hw0⟩ : ∃ W, (w.alloc (.cells #[.int .i64 room] 3)).alloc (.cells #[.bool false] 4) = W := ⟨_, rfl⟩
  have b0 : Below w.heap.size w w0 := by rw [← hw0]; exact ((Below.refl _ w).alloc (Nat.le_refl _) _).alloc (by simp) _
  have xM : Boxed w0 w.heap.size 3 (.int .i64 room) := by rw [← hw0]; exact (Boxed.new w 3 _).alloc _
  have xZ : Boxed w0 (w.heap.size + 1) 4 (.bool false) := by rw [← hw0]; have := Boxed.new (w.alloc (.cells #[.int .i64 room] 3)) 4 (.bool false); rwa [World.size_alloc] at this
  have s0 : w0.heap.size = w.heap.size + 2 := by rw [← hw0]; simp
  rw [hw0]
  clear hw0
  refine (works_any w0).mono ?_
  rintro e w1 ⟨rfl, b1⟩
  have b01 : Below w.heap.size w w1 := b0.trans (b1.mono b0.size)
  have yM : Boxed w1 w.heap.size 3 (.int .i64 room) := (b1.block _ (by omega)).trans xM
  have yZ : Boxed w1 (w.heap.size + 1) 4 (.bool false) := (b1.block _ (by omega)).trans xZ
  have s1 : w.heap.size + 2 ≤ w1.heap.size := by have := b1.size; omega
  clear xM xZ b0 b1 s0
  go_upto_if 24 with fail
  go_cut [0] from 23 (fun v wx => v = .int .i64 ra ∧ wx = w1)
  case first =>
    by_cases hn : rows < 0
    · have hx : -(rows + 1) = ra := by rw [← hra]; unfold absN; rw [if_pos hn]
      go_wp2_with fail
      go_meet
      case rel => exact ⟨rfl, rfl⟩
    · have hx : Hid (rows = ra) := by show _ = _; rw [← hra]; unfold absN; rw [if_neg hn]
      clear hra
      go_wp2_with fail
      go_meet
      case rel => exact ⟨by rw [hx.out], rfl⟩
  case rest =>
    obtain ⟨rfl, hcw⟩ := hcut
    rw [hcw]
    clear hra hcw wc
    have cM := yM.cell
    have fM := yM.frozen
    go_upto_if 29 with fail
    go_cut [0] from 28 (fun v wx => v = .int .i64 ra ∧ Boxed wx w.heap.size 3 (.int .i64 ma) ∧ Mv w1 wx (fun k => k = w.heap.size))
    case first =>
      by_cases hn : room < 0
      · have hx : -(room + 1) = ma := by rw [← hma]; unfold absN; rw [if_pos hn]
        clear hma
        go_wp2_with fail
        go_meet
        case rel => exact ⟨rfl, yM.set _, (Mv.refl w1 (fun k => k = w.heap.size)).setCell (a := ⟨w.heap.size, 0, none⟩) (Or.inl (rfl : w.heap.size = w.heap.size)) _⟩
      · have hx : Hid (room = ma) := by show _ = _; rw [← hma]; unfold absN; rw [if_neg hn]
        clear hma
        go_wp2_with fail
        go_meet
        case rel => exact ⟨rfl, by rw [← hx.out]; exact yM, Mv.refl _ _⟩
    case rest =>
      obtain ⟨rfl, zM, mM⟩ := hcut
      clear hma cM fM
      have cM := zM.cell
      have fM := zM.frozen
      obtain ⟨R, eR, hR1, hR2⟩ : ∃ R : Nat, 1 + ra % 20 = (R : Int) ∧ 1 ≤ R ∧ R ≤ 20 := ⟨(1 + ra % 20).toNat, by omega, by omega, by omega⟩
      obtain ⟨M, eM, hM2⟩ : ∃ M : Nat, ma % 200 = (M : Int) ∧ M ≤ 199 := ⟨(ma % 200).toNat, by omega, by omega⟩
      have hra0 : 0 ≤ ra := bra.1
      have hma0 : 0 ≤ ma := bma.1
      have uM := zM.set (.int .i64 (M : Int))
      have cM2 := uM.cell
      have mM2 : Mv w1 _ (fun k => k = w.heap.size) := mM.setCell (a := ⟨w.heap.size, 0, none⟩) (Or.inl (rfl : w.heap.size = w.heap.size)) (.int .i64 (M : Int))
      have cN := rep_newI R (M : Int) hR1 (by omega) (by omega) (by omega) (fun _ => 0) (wc.setCell ⟨w.heap.size, 0, none⟩ (.int .i64 (M : Int)))
      go_wp2_with fail
      refine cN.mono ?_
      rintro e w3 ⟨rfl, r3, m3⟩
      obtain ⟨w2, hw2⟩ : ∃ W, wc.setCell ⟨w.heap.size, 0, none⟩ (.int .i64 (M : Int)) = W := ⟨_, rfl⟩
      rw [hw2] at uM mM2 r3 m3
      rw [hw2]
      clear cN hw2 cM2 zM mM cM fM
      have hs2 : w.heap.size + 2 ≤ w2.heap.size := Nat.le_trans s1 mM2.size
      have hB3 : Below w.heap.size w w3 := (b01.trans (mM2.below b01.size (fun k hk => by subst hk; exact Nat.le_refl _))).trans (m3.below (by omega) (fun _ e => e.elim))
      have hls : LS w (w3.alloc (.cells #[.pointer (some ⟨w2.heap.size + 1, 0, none⟩)] 24)) R M w3.heap.size (w2.heap.size + 1) (newP w2) (fun _ => []) (fun _ => 0) := by
        have h3s := m3.size
        refine ⟨r3.quiet ((Mv.refl w3 _).alloc _), rfl, fun k hk => ?_, ?_, ?_, Boxed.new w3 24 _, by omega, hB3.alloc (by omega) _⟩
        · have e1 := newP_foot w2 k hk
          have e2 := r3.lt k hk
          exact ⟨by omega, by omega⟩
        · exact Boxed.alloc ((m3.block _ uM.lt (fun e => e)).trans uM) _
        · have e1 : Boxed w2 (w.heap.size + 1) 4 (.bool false) := (mM2.block _ yZ.lt (fun e => by omega)).trans yZ
          exact Boxed.alloc ((m3.block _ e1.lt (fun e => e)).trans e1) _
      obtain ⟨BA, hBA⟩ : ∃ x, w3.heap.size = x := ⟨_, rfl⟩
      obtain ⟨A0, hA0⟩ : ∃ x, w2.heap.size + 1 = x := ⟨_, rfl⟩
      rw [hBA, hA0] at hls
      go_wp2_with fail
      clear hB3 hs2 r3 m3 uM mM2 yM yZ b01 s1
      refine loopA w R M BA A0 ll lc la A hA hll _ _ _ _ _ _ _ _ _ _ _ _ _ _ _ _ _ _ _ _ _ _ _ _ _ _ _ _ _ _ _ _ _ _ _ _ _ _ _ _ _ _ _ _ _ _ _ _ _ _ _ _ _ _ _ _ _ _ _ _ _ _ _ _ _ _ _ _ _ _ _ _ _ _ _ _ _ _ _ _ _ _ _ _ _ _ _ _ _ _ _ _ _ _ _ _ _ _ _ _ _ _ _ _ _ _ _ _ _ _ _ _ _ _ _ _ _ _ _ _ _ _ _ _ _ _ _ _ _ _ _ _ ?hexit _ _ _ _ _ _ _ _ _ _ _ _ _ _ _ _ _ _ _ _ _ _ _ _ _ _ _ _ _ _ _ _ _ _ _ _ _ _ _ _ _ _ _ _ _ _ _ _ _ _ _ _ _ ⟨_, _, _, hls⟩
      case hexit =>
        intro a' w4 hW
        unfold WIa at hW
        obtain ⟨i, hW⟩ := hW
        obtain ⟨u50, hW⟩ := hW
        obtain ⟨u51, hW⟩ := hW
        obtain ⟨u52, hW⟩ := hW
        obtain ⟨u53, hW⟩ := hW
        obtain ⟨u54, hW⟩ := hW
        obtain ⟨u55, hW⟩ := hW
        obtain ⟨u56, hW⟩ := hW
        obtain ⟨u57, hW⟩ := hW
        obtain ⟨u58, hW⟩ := hW
        obtain ⟨u59, hW⟩ := hW
        obtain ⟨u60, hW⟩ := hW
        obtain ⟨u61, hW⟩ := hW
        obtain ⟨u62, hW⟩ := hW
        obtain ⟨u63, hW⟩ := hW
        obtain ⟨u64, hW⟩ := hW
        obtain ⟨u65, hW⟩ := hW
        obtain ⟨u66, hW⟩ := hW
        obtain ⟨u67, hW⟩ := hW
        obtain ⟨u68, hW⟩ := hW
        obtain ⟨u69, hW⟩ := hW
        obtain ⟨u70, hW⟩ := hW
        obtain ⟨u71, hW⟩ := hW
        obtain ⟨u72, hW⟩ := hW
        obtain ⟨u73, hW⟩ := hW
        obtain ⟨u74, hW⟩ := hW
        obtain ⟨u75, hW⟩ := hW
        obtain ⟨u76, hW⟩ := hW
        obtain ⟨u77, hW⟩ := hW
        obtain ⟨u78, hW⟩ := hW
        obtain ⟨u79, hW⟩ := hW
        obtain ⟨u80, hW⟩ := hW
        obtain ⟨u81, hW⟩ := hW
        obtain ⟨u82, hW⟩ := hW
        obtain ⟨u83, hW⟩ := hW
        obtain ⟨u84, hW⟩ := hW
        obtain ⟨u85, hW⟩ := hW
        obtain ⟨u86, hW⟩ := hW
        obtain ⟨u87, hW⟩ := hW
        obtain ⟨u88, hW⟩ := hW
        obtain ⟨u89, hW⟩ := hW
        obtain ⟨u90, hW⟩ := hW
        obtain ⟨u91, hW⟩ := hW
        obtain ⟨u92, hW⟩ := hW
        obtain ⟨u93, hW⟩ := hW
        obtain ⟨u94, hW⟩ := hW
        obtain ⟨u95, hW⟩ := hW
        obtain ⟨u96, hW⟩ := hW
        obtain ⟨u97, hW⟩ := hW
        obtain ⟨u98, hW⟩ := hW
        obtain ⟨u99, hW⟩ := hW
        obtain ⟨u100, hW⟩ := hW
        obtain ⟨u101, hW⟩ := hW
        obtain ⟨⟨hi, p, q, th, hls4⟩, rfl⟩ := hW
        clear hls hBA hA0
        have hsz4 := hls4.bel.size
        obtain ⟨S0, hS0⟩ : ∃ S, w4.heap.size = S := ⟨_, rfl⟩
        have cM4 := hls4.bM.cell
        have hmk := fun W => run_make_row' (P := Try.prog) 47 4 (.bool false) 1 Try.underlying47 Try.info4 rfl .i64 .i64 M (by omega) (by omega) W
        obtain ⟨W4, hW4⟩ : ∃ W, ((w4.alloc (.cells (madeCells #[.bool false] M) 4)).alloc (.cells #[.slice (some ⟨S0, 0, none⟩) M M] 47)).alloc (.cells #[.int .i64 0] 3) = W := ⟨_, rfl⟩
        have mq : Mv w4 W4 (fun _ => False) := by rw [← hW4]; exact (((Mv.refl w4 _).alloc _).alloc _).alloc _
        have sz4 : W4.heap.size = S0 + 3 := by rw [← hW4]; simp [hS0]
        have bS4 : Boxed W4 (S0 + 1) 47 (.slice (some ⟨S0, 0, none⟩) M M) := by
          have := (Boxed.new (w4.alloc (.cells (madeCells #[.bool false] M) 4)) 47 (.slice (some ⟨S0, 0, none⟩) M M)).alloc (.cells #[.int .i64 0] 3)
          rw [World.size_alloc, hS0] at this
          rw [← hW4]; exact this
        have bU4 : Boxed W4 (S0 + 2) 3 (.int .i64 0) := by
          have := Boxed.new ((w4.alloc (.cells (madeCells #[.bool false] M) 4)).alloc (.cells #[.slice (some ⟨S0, 0, none⟩) M M] 47)) 3 (.int .i64 0)
          rw [World.size_alloc, World.size_alloc, hS0] at this
          rw [← hW4]; exact this
        have seen4 : Row W4 4 1 (.slice (some ⟨S0, 0, none⟩) M M) M (fun _ => .bool false) := by
          have := ((made_false w4 M (by omega)).alloc (.cells #[.slice (some ⟨S0, 0, none⟩) M M] 47)).alloc (.cells #[.int .i64 0] 3)
          rw [hS0] at this
          rw [← hW4]; exact this
        have hltS : ∀ k, Foot p k → k < S0 := fun k hk => by rw [← hS0]; exact hls4.rep.lt k hk
        have hB : BaseR w W4 R M BA A0 p q th S0 := by
          refine ⟨⟨hls4.rep.quiet mq, hls4.A, hls4.foot, (mq.block _ hls4.bM.lt (fun e => e)).trans hls4.bM, (mq.block _ hls4.bZ.lt (fun e => e)).trans hls4.bZ, (mq.block _ hls4.bA.lt (fun e => e)).trans hls4.bA, hls4.geA, hls4.bel.trans (mq.below hsz4 (fun _ e => e.elim))⟩, hltS, ?_, ?_, bS4, sz4, ⟨hR1, hR2⟩, hM2⟩
          · rw [← hS0]; exact hls4.bA.lt
          · rw [← hS0]; exact hls4.bZ.lt
        have hri : RI W4 M q S0 0 (S0 + 3) [] (W4.alloc (.cells #[.int .i64 0] 3)) := by
          refine ⟨(Mv.refl W4 _).alloc _, bU4.alloc _, seen4.alloc _, ?_, Nat.le_refl _, (fun D hD => by simp at hD), List.nodup_nil⟩
          have := Boxed.new W4 3 (.int .i64 0)
          rw [sz4] at this
          exact this
        have HW4 : Hid (_ = W4) := hW4
        clear hW4
        go_wp2_with fail
        rw [HW4.out]
        refine loopR w W4 R M BA A0 p q th S0 hB _ _ _ _ _ _ _ _ _ _ _ _ _ _ _ _ _ _ _ _ _ _ _ _ _ _ _ _ _ _ _ _ _ _ _ _ _ _ _ _ _ _ _ _ _ _ _ _ _ _ _ _ _ _ _ _ _ _ _ _ _ _ _ _ _ _ _ _ _ _ _ _ _ _ _ _ _ _ _ _ _ _ _ _ _ _ _ _ _ _ _ _ _ _ _ _ _ _ _ _ _ ?hexit2 _ _ _ _ _ _ _ _ _ _ _ _ _ _ _ _ _ _ _ _ _ _ _ _ _ _ _ _ _ _ _ _ _ _ _ _ _ _ _ _ _ _ _ _ _ _ _ _ _ _ _ _ _ _ _ _ _ _ _ _ _ _ _ _ _ _ _ _ _ _ _ _ _ _ _ _ _ _ _ _ _ hri
        case hexit2 =>
          intro a' w6 hW
          unfold WXr at hW
          obtain ⟨Br, hW⟩ := hW
          obtain ⟨Ds, hW⟩ := hW
          obtain ⟨u14, hW⟩ := hW
          obtain ⟨u15, hW⟩ := hW
          obtain ⟨u16, hW⟩ := hW
          obtain ⟨u17, hW⟩ := hW
          obtain ⟨u18, hW⟩ := hW
          obtain ⟨u19, hW⟩ := hW
          obtain ⟨u20, hW⟩ := hW
          obtain ⟨u104, hW⟩ := hW
          obtain ⟨u105, hW⟩ := hW
          obtain ⟨u106, hW⟩ := hW
          obtain ⟨u107, hW⟩ := hW
          obtain ⟨u108, hW⟩ := hW
          obtain ⟨u109, hW⟩ := hW
          obtain ⟨u110, hW⟩ := hW
          obtain ⟨u111, hW⟩ := hW
          obtain ⟨u112, hW⟩ := hW
          obtain ⟨u113, hW⟩ := hW
          obtain ⟨u114, hW⟩ := hW
          obtain ⟨u115, hW⟩ := hW
          obtain ⟨u116, hW⟩ := hW
          obtain ⟨u117, hW⟩ := hW
          obtain ⟨u118, hW⟩ := hW
          obtain ⟨u119, hW⟩ := hW
          obtain ⟨u120, hW⟩ := hW
          obtain ⟨u121, hW⟩ := hW
          obtain ⟨u122, hW⟩ := hW
          obtain ⟨u123, hW⟩ := hW
          obtain ⟨u124, hW⟩ := hW
          obtain ⟨u125, hW⟩ := hW
          obtain ⟨u126, hW⟩ := hW
          obtain ⟨u127, hW⟩ := hW
          obtain ⟨u128, hW⟩ := hW
          obtain ⟨u129, hW⟩ := hW
          obtain ⟨u130, hW⟩ := hW
          obtain ⟨u131, hW⟩ := hW
          obtain ⟨u132, hW⟩ := hW
          obtain ⟨u133, hW⟩ := hW
          obtain ⟨u134, hW⟩ := hW
          obtain ⟨u135, hW⟩ := hW
          obtain ⟨u136, hW⟩ := hW
          obtain ⟨u137, hW⟩ := hW
          obtain ⟨u138, hW⟩ := hW
          obtain ⟨u139, hW⟩ := hW
          obtain ⟨u140, hW⟩ := hW
          obtain ⟨u141, hW⟩ := hW
          obtain ⟨u142, hW⟩ := hW
          obtain ⟨u143, hW⟩ := hW
          obtain ⟨u144, hW⟩ := hW
          obtain ⟨u145, hW⟩ := hW
          obtain ⟨u146, hW⟩ := hW
          obtain ⟨u147, hW⟩ := hW
          obtain ⟨u148, hW⟩ := hW
          obtain ⟨u149, hW⟩ := hW
          obtain ⟨u150, hW⟩ := hW
          obtain ⟨u151, hW⟩ := hW
          obtain ⟨u152, hW⟩ := hW
          obtain ⟨u153, hW⟩ := hW
          obtain ⟨u154, hW⟩ := hW
          obtain ⟨u155, hW⟩ := hW
          obtain ⟨u156, hW⟩ := hW
          obtain ⟨u157, hW⟩ := hW
          obtain ⟨u158, hW⟩ := hW
          obtain ⟨u159, hW⟩ := hW
          obtain ⟨u160, hW⟩ := hW
          obtain ⟨u161, hW⟩ := hW
          obtain ⟨u162, hW⟩ := hW
          obtain ⟨u163, hW⟩ := hW
          obtain ⟨u164, hW⟩ := hW
          obtain ⟨u165, hW⟩ := hW
          obtain ⟨u166, hW⟩ := hW
          obtain ⟨u167, hW⟩ := hW
          obtain ⟨u168, hW⟩ := hW
          obtain ⟨u169, hW⟩ := hW
          obtain ⟨u170, hW⟩ := hW
          obtain ⟨u171, hW⟩ := hW
          obtain ⟨u172, hW⟩ := hW
          obtain ⟨u173, hW⟩ := hW
          obtain ⟨u174, hW⟩ := hW
          obtain ⟨u175, hW⟩ := hW
          obtain ⟨hI6, rfl⟩ := hW
          clear hri hmk HW4 bS4 bU4 seen4 cM4
          have low6 := hI6.mv.low hB.sz
          have hrep6 : RepI w6 p R M q th := hB.rep low6
          have bM6 : Boxed w6 w.heap.size 3 (.int .i64 M) := (low6 _ (by have := hB.ltZ; omega)).trans hB.ls.bM
          have bZ6 : Boxed w6 (w.heap.size + 1) 4 (.bool false) := (low6 _ hB.ltZ).trans hB.ls.bZ
          have bA6 : Boxed w6 BA 24 (.pointer (some ⟨A0, 0, none⟩)) := (low6 _ hB.ltA).trans hB.ls.bA
          have cA6 := bA6.cell
          have cFr := rep_freeI hrep6
          rw [hB.ls.A] at cFr
          have hbd := hrep6.bound
          have HB6 : Hid (Below w.heap.size w w6) := hB.ls.bel.trans (hI6.mv.below (by have := hB.ltZ; have := hB.sz; omega) (fun k e => by have := hB.ltZ; omega))
          have HI6 : Hid (RI W4 M q S0 R Br Ds w6) := hI6
          clear hI6 low6
          go_wp2_with fail
          refine cFr.mono ?_
          rintro e w7 ⟨rfl, m7⟩
          have bU7 : Boxed w7 (S0 + 2) 3 (.int .i64 (total q R : Nat)) := (m7.block _ HI6.out.sum.lt (fun e => e)).trans HI6.out.sum
          have bM7 : Boxed w7 w.heap.size 3 (.int .i64 M) := (m7.block _ bM6.lt (fun e => e)).trans bM6
          have bZ7 : Boxed w7 (w.heap.size + 1) 4 (.bool false) := (m7.block _ bZ6.lt (fun e => e)).trans bZ6
          have cU7 := bU7.cell
          have cM7 := bM7.cell
          have cZ7 := bZ7.cell
          have fZ7 := bZ7.frozen
          have esum : (total q R : Int) + ((M : Int) - (total q R : Int)) = (M : Int) := by omega
          go_wp2_with fail
          have bZ8 := bZ7.set (.bool true)
          have b78 : Below w.heap.size w (w7.setCell ⟨w.heap.size + 1, 0, none⟩ (.bool true)) := (HB6.out.trans (m7.below HB6.out.size (fun _ e => e.elim))).setCell (p := ⟨w.heap.size + 1, 0, none⟩) (by show w.heap.size ≤ w.heap.size + 1; omega) _
          refine leaves_marks (v := .bool true) Ds _ HI6.out.nd (fun D hD => ?_) (fun W' m => ?_)
          · have hd := HI6.out.ds D hD
            have hz := hB.ltZ
            rw [Below.heap_setCell _ _ _ _ (by show D ≠ w.heap.size + 1; omega)]
            exact (m7.block D (Array.getElem?_eq_some_iff.1 hd.2).1 (fun e => e)).trans hd.2
          · have hz := hB.ltZ
            have bZ9 : Boxed W' (w.heap.size + 1) 4 (.bool true) := (m.block _ bZ8.lt (fun e => by have := (HI6.out.ds _ e).1; omega)).trans bZ8
            have cZ9 := bZ9.cell
            refine ⟨?_, rfl, b78.trans (m.below b78.size (fun k hk => by have := (HI6.out.ds k hk).1; omega))⟩
            exact result4 _ _ _ rfl cZ9
end Go.Proofs.Ythkdmjbdcnaklaa
