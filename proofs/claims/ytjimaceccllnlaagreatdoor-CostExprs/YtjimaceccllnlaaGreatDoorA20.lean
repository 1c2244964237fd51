import Derived.Test.YtjimaceccllnlaaGreatDoorA0
import Derived.Test.YtjimaceccllnlaaGreatDoorA19
namespace Go.Proofs.YtjimaceccllnlaaGreatDoor
set_option maxRecDepth 100000
set_option maxHeartbeats 8000000
open Go.RowKit
set_option linter.unusedVariables false
set_option linter.unusedSimpArgs false
def ndO (d : DoM) : Bool := decide (d.k = 1)
def ndN (d : DoM) : Bool := if d.k = 1 then !d.x.toList.isEmpty else decide (2 ≤ d.k ∧ d.k ≤ 5)
def ndS (d : DoM) : Bool := decide (d.k = 1)
def ndQ (d : DoM) : Bool := decide (d.k = 1 ∨ d.k = 2)
def ndP (d : DoM) : Bool := if d.k = 1 then d.o != 2 else decide (d.k = 2)
def ndV (d : DoM) : Bool := decide (d.k = 4)
theorem nb_any (d : DoM) (w : World) : Calls zG 195 #[.agg d.vals] w fun e w' => e = .returned (.agg #[.bool (ndO d), .bool (ndN d), .bool (ndS d), .bool (ndQ d), .bool (ndP d), .bool (ndV d)]) ∧ Below w§ w w' := by
 by_cases h1 : d.k = 1
 ·have := nb_sub d w _ _ h1 rfl rfl
  simp only [ndO, ndN, ndS, ndQ, ndP, ndV, h1, if_true, decide_true, true_or, show ¬ (1 : Int) = 4 by decide, decide_false]
  exact this
 by_cases h2 : d.k = 2
 ·have := nb_amd d w h2
  simp [ndO, ndN, ndS, ndQ, ndP, ndV, h2]
  exact this
 by_cases h3 : d.k = 3
 ·have := nb_can d w h3
  simp [ndO, ndN, ndS, ndQ, ndP, ndV, h3]
  exact this
 by_cases h4 : d.k = 4
 ·have := nb_set d w h4
  simp [ndO, ndN, ndS, ndQ, ndP, ndV, h4]
  exact this
 by_cases h5 : d.k = 5
 ·have := nb_got d w h5
  simp [ndO, ndN, ndS, ndQ, ndP, ndV, h5]
  exact this
 ·have := nb_not d w h1 h2 h3 h4 h5
  have hn : ¬ (2 ≤ d.k ∧ d.k ≤ 5) := by omega
  simp only [ndO, ndN, ndS, ndQ, ndP, ndV, h1, h2, h4, hn, if_false, decide_false, or_self]
  exact this
def doE (d : DoM) : Int := fs (okE (decide (1 ≤ d.k ∧ d.k ≤ 6))) (fs (if ndO d = true then okE (decide (1 ≤ d.o ∧ d.o ≤ 5)) else okE (decide (d.o = 0))) (fs (if ndN d = true then namE d.x else okE (d.x.toList.isEmpty)) (fs (partE d.sd (ndS d)) (fs (partE d.qt (ndQ d)) (fs (partE d.pr (ndP d)) (partE d.vl (ndV d)))))))
def DoZ (d : DoM) : Prop := size d.sd ≤ 1000000000000 ∧ size d.qt ≤ 1000000000000 ∧ size d.pr ≤ 1000000000000 ∧ size d.vl ≤ 1000000000000
theorem do_sd (d : DoM) : ∀ j, j < 8 → d.vals[3 + j]? = d.sd.vals.toList[j]? := fun j hj => by
 match j, hj with
 | 0, _ => rfl
 | 1, _ => rfl
 | 2, _ => rfl
 | 3, _ => rfl
 | 4, _ => rfl
 | 5, _ => rfl
 | 6, _ => rfl
 | 7, _ => rfl
theorem do_qt (d : DoM) : ∀ j, j < 8 → d.vals[11 + j]? = d.qt.vals.toList[j]? := fun j hj => by
 match j, hj with
 | 0, _ => rfl
 | 1, _ => rfl
 | 2, _ => rfl
 | 3, _ => rfl
 | 4, _ => rfl
 | 5, _ => rfl
 | 6, _ => rfl
 | 7, _ => rfl
theorem do_pr (d : DoM) : ∀ j, j < 8 → d.vals[19 + j]? = d.pr.vals.toList[j]? := fun j hj => by
 match j, hj with
 | 0, _ => rfl
 | 1, _ => rfl
 | 2, _ => rfl
 | 3, _ => rfl
 | 4, _ => rfl
 | 5, _ => rfl
 | 6, _ => rfl
 | 7, _ => rfl
theorem do_vl (d : DoM) : ∀ j, j < 8 → d.vals[27 + j]? = d.vl.vals.toList[j]? := fun j hj => by
 match j, hj with
 | 0, _ => rfl
 | 1, _ => rfl
 | 2, _ => rfl
 | 3, _ => rfl
 | 4, _ => rfl
 | 5, _ => rfl
 | 6, _ => rfl
 | 7, _ => rfl
theorem do_tt (d : DoM) (w : World) (hl : DoL w d) (hz : DoZ d) (ht : Tab w) (hO : ndO d = true) (hN : ndN d = true) : Gives 181 #[.agg d.vals] w (doE d) := by
 have hb0 := Bn w (.cells d.vals 92)
 have hn0 := Hn w (.cells d.vals 92)
 have HH : Hid (DoL w d ∧ Tab w ∧ DoZ d) := ⟨hl, ht, hz⟩
 have HN0 : Hid ((w.alloc (.cells d.vals 92)).heap[w§]? = some (.cells d.vals 92 (0, 0))) := hn0
 have HB0 : Hid (Below w§ w (w.alloc (.cells d.vals 92))) := hb0
 have q0 : (w.alloc (.cells d.vals 92)).cell? ⟨w§, 0, none⟩ = some (zU d.k) := Co hn0 0
 have c0 := wU_any 194 d.k 1 6 (w.alloc (.cells d.vals 92)) (by simp)
 have cn := fun v => nb_any d v
 obtain ⟨E, eE⟩ : ∃ E, doE d = E := ⟨_, rfl⟩
 have HE : Hid (doE d = E) := eE
 rw [eE]
 unfold doE at HE
 rw [hO, hN] at HE
 rw [hO, hN] at cn
 obtain ⟨B1, eB1⟩ : ∃ B, decide (1 ≤ d.k ∧ d.k ≤ 6) = B := ⟨_, rfl⟩
 rw [eB1] at c0 HE
 rw [if_pos rfl] at HE
 obtain ⟨B2, eB2⟩ : ∃ B, decide (1 ≤ d.o ∧ d.o ≤ 5) = B := ⟨_, rfl⟩
 rw [eB2] at HE
 have cO := fun v => wU_any 196 d.o 1 5 v (by simp)
 simp only [eB2] at cO
 rw [if_pos rfl] at HE
 obtain ⟨bs, ebs⟩ : ∃ q, ndS d = q := ⟨_, rfl⟩
 obtain ⟨bq, ebq⟩ : ∃ q, ndQ d = q := ⟨_, rfl⟩
 obtain ⟨bp, ebp⟩ : ∃ q, ndP d = q := ⟨_, rfl⟩
 obtain ⟨bv, ebv⟩ : ∃ q, ndV d = q := ⟨_, rfl⟩
 rw [ebs, ebq, ebp, ebv] at HE
 simp only [ebs, ebq, ebp, ebv] at cn
 clear hl ht hz eE hb0 hn0 hO hN eB1 ebs ebq ebp ebv
 clear eB2
 unfold Gives
 go_enter Tryz.func181, Tryz.ntmps181
 go_wp2_with fail
 refine c0.mono ?_
 rintro e w0 ⟨rfl, e0⟩
 obtain rfl := e0.symm
 have c1 := (need_gives B1 (w.alloc (.cells d.vals 92))).two
 clear c0 e0
 rcases c1 with ⟨h1, c1⟩ | ⟨h1, c1⟩
 ·go_wp2_with fail
  refine c1.mono ?_
  rintro e w1 ⟨rfl, hb⟩
  have HB1 : Hid (Below w§ w w1) := below2 HB0.out hb
  have hd1 := (hb.block _ (Array.getElem?_eq_some_iff.1 HN0.out).1).trans HN0.out
  have HD1 : Hid (w1.heap[w§]? = some (.cells d.vals 92 (0, 0))) := hd1
  have cn1 := cn w1
  clear c1 hb hd1 q0 HN0 HB0
  go_wp2_with (refine wpList_load_row rfl 92 (.tmp 1) rfl w§ rfl 92 d.vals (0, 0) _ HD1.out Tryz.underlying92 rfl size110' ?_)
  refine cn1.mono ?_
  rintro e wm ⟨rfl, hb⟩
  have hdm := (hb.block _ (Array.getElem?_eq_some_iff.1 HD1.out).1).trans HD1.out
  have hbn := Bn wm (.cells #[.bool true, .bool true, .bool bs, .bool bq, .bool bp, .bool bv] 253)
  have HDM : Hid ((wm.alloc (.cells #[.bool true, .bool true, .bool bs, .bool bq, .bool bp, .bool bv] 253)).heap[w§]? = some (.cells d.vals 92 (0, 0))) := (hbn.block _ (Array.getElem?_eq_some_iff.1 hdm).1).trans hdm
  have HNM : Hid ((wm.alloc (.cells #[.bool true, .bool true, .bool bs, .bool bq, .bool bp, .bool bv] 253)).heap[wm§]? = some (.cells #[.bool true, .bool true, .bool bs, .bool bq, .bool bp, .bool bv] 253 (0, 0))) := Hn _ _
  have HBM : Hid (Below w§ w (wm.alloc (.cells #[.bool true, .bool true, .bool bs, .bool bq, .bool bp, .bool bv] 253))) := below2 (below2 HB1.out hb) hbn
  clear cn1 cn hb hdm hbn HD1 HB1
  go_upto_region 3 with fail
  obtain ⟨NM, eNM⟩ : ∃ q, wm§ = q := ⟨_, rfl⟩
  obtain ⟨WM, eWM⟩ : ∃ W, wm.alloc (.cells #[.bool true, .bool true, .bool bs, .bool bq, .bool bp, .bool bv] 253) = W := ⟨_, rfl⟩
  rw [eWM, eNM] at HNM
  rw [eWM] at HDM HBM
  rw [eWM, eNM]
  clear eWM eNM
  have m0 : WM.cell? ⟨NM, 0, none⟩ = some (.bool true) := Co HNM.out 0
  have p1 : WM.cell? ⟨w§, 1, none⟩ = some (zU d.o) := Co HDM.out 1
  have cO1 := cO WM
  go_wp2_with fail
  refine cO1.mono ?_
  rintro e w0' ⟨rfl, e0⟩
  obtain rfl := e0.symm
  clear cO1 e0 cO
  have c2 := (need_gives B2 WM).two
  rcases c2 with ⟨h2, c2⟩ | ⟨h2, c2⟩
  ·go_wp2_with fail
   refine c2.mono ?_
   rintro e w2 ⟨rfl, hb⟩
   have HB2 : Hid (Below w§ w w2) := below2 HBM.out hb
   have hdm := (hb.block _ (Array.getElem?_eq_some_iff.1 HDM.out).1).trans HDM.out
   have hnm := (hb.block _ (Array.getElem?_eq_some_iff.1 HNM.out).1).trans HNM.out
   have HD2 : Hid (w2.heap[w§]? = some (.cells d.vals 92 (0, 0))) := hdm
   have HN2 : Hid (w2.heap[NM]? = some (.cells #[.bool true, .bool true, .bool bs, .bool bq, .bool bp, .bool bv] 253 (0, 0))) := hnm
   have m1 : w2.cell? ⟨NM, 1, none⟩ = some (.bool true) := Co hnm 1
   have p2 : w2.cell? ⟨w§, 2, none⟩ = some (.string d.x) := Co hdm 2
   clear c2 hb hdm hnm m0 p1 HDM HNM HBM
   have c3 := (nm_gives (x := d.x) HH.out.1.2.2.2.2.2.2.2 (HH.out.2.1.on HB2.out)).two
   rcases c3 with ⟨h3, c3⟩ | ⟨h3, c3⟩
   ·go_wp2_with fail
    refine c3.mono ?_
    rintro e w3 ⟨rfl, hb⟩
    have HB3 : Hid (Below w§ w w3) := below2 HB2.out hb
    have hdm := (hb.block _ (Array.getElem?_eq_some_iff.1 HD2.out).1).trans HD2.out
    have hnm := (hb.block _ (Array.getElem?_eq_some_iff.1 HN2.out).1).trans HN2.out
    have HD3 : Hid (w3.heap[w§]? = some (.cells d.vals 92 (0, 0))) := hdm
    have HN3 : Hid (w3.heap[NM]? = some (.cells #[.bool true, .bool true, .bool bs, .bool bq, .bool bp, .bool bv] 253 (0, 0))) := hnm
    have m2 : w3.cell? ⟨NM, 2, none⟩ = some (.bool bs) := Co hnm 2
    clear c3 hb hdm hnm m1 p2 HD2 HN2
    have c4 := (part_gives d.sd bs w3 (HH.out.1.1.on HB3.out) HH.out.2.2.1 (HH.out.2.1.on HB3.out)).two
    rcases c4 with ⟨h4, c4⟩ | ⟨h4, c4⟩
    ·go_wp2_with (refine wpList_load_mid rfl 28 (.tmp 28) rfl w§ 3 rfl d.sd.vals.toList _ (nd_rng HD3.out 3 d.sd (do_sd d)) Tryz.underlying28 rfl (size38 d.sd) ?_; rw [toArr])
     refine c4.mono ?_
     rintro e w4 ⟨rfl, hb⟩
     have HB4 : Hid (Below w§ w w4) := below2 HB3.out hb
     have hdm := (hb.block _ (Array.getElem?_eq_some_iff.1 HD3.out).1).trans HD3.out
     have hnm := (hb.block _ (Array.getElem?_eq_some_iff.1 HN3.out).1).trans HN3.out
     have HD4 : Hid (w4.heap[w§]? = some (.cells d.vals 92 (0, 0))) := hdm
     have HN4 : Hid (w4.heap[NM]? = some (.cells #[.bool true, .bool true, .bool bs, .bool bq, .bool bp, .bool bv] 253 (0, 0))) := hnm
     have m3 : w4.cell? ⟨NM, 3, none⟩ = some (.bool bq) := Co hnm 3
     clear c4 hb hdm hnm m2 HD3 HN3
     have c5 := (part_gives d.qt bq w4 (HH.out.1.2.1.on HB4.out) HH.out.2.2.2.1 (HH.out.2.1.on HB4.out)).two
     rcases c5 with ⟨h5, c5⟩ | ⟨h5, c5⟩
     ·go_wp2_with (refine wpList_load_mid rfl 28 (.tmp 33) rfl w§ 11 rfl d.qt.vals.toList _ (nd_rng HD4.out 11 d.qt (do_qt d)) Tryz.underlying28 rfl (size38 d.qt) ?_; rw [toArr])
      refine c5.mono ?_
      rintro e w5 ⟨rfl, hb⟩
      have HB5 : Hid (Below w§ w w5) := below2 HB4.out hb
      have hdm := (hb.block _ (Array.getElem?_eq_some_iff.1 HD4.out).1).trans HD4.out
      have hnm := (hb.block _ (Array.getElem?_eq_some_iff.1 HN4.out).1).trans HN4.out
      have HD5 : Hid (w5.heap[w§]? = some (.cells d.vals 92 (0, 0))) := hdm
      have HN5 : Hid (w5.heap[NM]? = some (.cells #[.bool true, .bool true, .bool bs, .bool bq, .bool bp, .bool bv] 253 (0, 0))) := hnm
      have m4 : w5.cell? ⟨NM, 4, none⟩ = some (.bool bp) := Co hnm 4
      clear c5 hb hdm hnm m3 HD4 HN4
      have c6 := (part_gives d.pr bp w5 (HH.out.1.2.2.1.on HB5.out) HH.out.2.2.2.2.1 (HH.out.2.1.on HB5.out)).two
      rcases c6 with ⟨h6, c6⟩ | ⟨h6, c6⟩
      ·go_wp2_with (refine wpList_load_mid rfl 28 (.tmp 38) rfl w§ 19 rfl d.pr.vals.toList _ (nd_rng HD5.out 19 d.pr (do_pr d)) Tryz.underlying28 rfl (size38 d.pr) ?_; rw [toArr])
       refine c6.mono ?_
       rintro e w6 ⟨rfl, hb⟩
       have HB6 : Hid (Below w§ w w6) := below2 HB5.out hb
       have hdm := (hb.block _ (Array.getElem?_eq_some_iff.1 HD5.out).1).trans HD5.out
       have hnm := (hb.block _ (Array.getElem?_eq_some_iff.1 HN5.out).1).trans HN5.out
       have HD6 : Hid (w6.heap[w§]? = some (.cells d.vals 92 (0, 0))) := hdm
       have HN6 : Hid (w6.heap[NM]? = some (.cells #[.bool true, .bool true, .bool bs, .bool bq, .bool bp, .bool bv] 253 (0, 0))) := hnm
       have m5 : w6.cell? ⟨NM, 5, none⟩ = some (.bool bv) := Co hnm 5
       clear c6 hb hdm hnm m4 HD5 HN5
       have c7 := (part_gives d.vl bv w6 (HH.out.1.2.2.2.1.on HB6.out) HH.out.2.2.2.2.2 (HH.out.2.1.on HB6.out)).two
       rcases c7 with ⟨h7, c7⟩ | ⟨h7, c7⟩
       ·go_wp2_with (refine wpList_load_mid rfl 28 (.tmp 43) rfl w§ 27 rfl d.vl.vals.toList _ (nd_rng HD6.out 27 d.vl (do_vl d)) Tryz.underlying28 rfl (size38 d.vl) ?_; rw [toArr])
        refine c7.mono ?_
        rintro e w7 ⟨rfl, hb⟩
        have HB7 : Hid (Below w§ w w7) := below2 HB6.out hb
        clear c7 hb
        go_wp2_with fail
        go_end0
        exact ⟨.inl ⟨by rw [← HE.out, fs_z h1, fs_z h2, fs_z h3, fs_z h4, fs_z h5, fs_z h6]; exact h7, rfl⟩, HB7.out⟩
       ·go_wp2_with (refine wpList_load_mid rfl 28 (.tmp 43) rfl w§ 27 rfl d.vl.vals.toList _ (nd_rng HD6.out 27 d.vl (do_vl d)) Tryz.underlying28 rfl (size38 d.vl) ?_; rw [toArr])
        refine c7.mono ?_
        rintro e wf ⟨rfl, hb⟩
        have hE : E = partE d.vl bv := by rw [← HE.out, fs_z h1, fs_z h2, fs_z h3, fs_z h4, fs_z h5, fs_z h6]
        exact ⟨rfl, .inr ⟨by rw [hE]; exact h7, by rw [hE]⟩, below2 HB6.out hb⟩
      ·go_wp2_with (refine wpList_load_mid rfl 28 (.tmp 38) rfl w§ 19 rfl d.pr.vals.toList _ (nd_rng HD5.out 19 d.pr (do_pr d)) Tryz.underlying28 rfl (size38 d.pr) ?_; rw [toArr])
       refine c6.mono ?_
       rintro e wf ⟨rfl, hb⟩
       have hE : E = partE d.pr bp := by rw [← HE.out, fs_z h1, fs_z h2, fs_z h3, fs_z h4, fs_z h5, fs_n h6]
       exact ⟨rfl, .inr ⟨by rw [hE]; exact h6, by rw [hE]⟩, below2 HB5.out hb⟩
     ·go_wp2_with (refine wpList_load_mid rfl 28 (.tmp 33) rfl w§ 11 rfl d.qt.vals.toList _ (nd_rng HD4.out 11 d.qt (do_qt d)) Tryz.underlying28 rfl (size38 d.qt) ?_; rw [toArr])
      refine c5.mono ?_
      rintro e wf ⟨rfl, hb⟩
      have hE : E = partE d.qt bq := by rw [← HE.out, fs_z h1, fs_z h2, fs_z h3, fs_z h4, fs_n h5]
      exact ⟨rfl, .inr ⟨by rw [hE]; exact h5, by rw [hE]⟩, below2 HB4.out hb⟩
    ·go_wp2_with (refine wpList_load_mid rfl 28 (.tmp 28) rfl w§ 3 rfl d.sd.vals.toList _ (nd_rng HD3.out 3 d.sd (do_sd d)) Tryz.underlying28 rfl (size38 d.sd) ?_; rw [toArr])
     refine c4.mono ?_
     rintro e wf ⟨rfl, hb⟩
     have hE : E = partE d.sd bs := by rw [← HE.out, fs_z h1, fs_z h2, fs_z h3, fs_n h4]
     exact ⟨rfl, .inr ⟨by rw [hE]; exact h4, by rw [hE]⟩, below2 HB3.out hb⟩
   ·go_wp2_with fail
    refine c3.mono ?_
    rintro e wf ⟨rfl, hb⟩
    have hE : E = (namE d.x) := by rw [← HE.out, fs_z h1, fs_z h2, fs_n h3]
    exact ⟨rfl, .inr ⟨by rw [hE]; exact h3, by rw [hE]⟩, below2 HB2.out hb⟩
  ·go_wp2_with fail
   refine c2.mono ?_
   rintro e wf ⟨rfl, hb⟩
   have hE : E = okE B2 := by rw [← HE.out, fs_z h1, fs_n h2]
   exact ⟨rfl, .inr ⟨by rw [hE]; exact h2, by rw [hE]⟩, below2 HBM.out hb⟩
 ·go_wp2_with fail
  refine c1.mono ?_
  rintro e wf ⟨rfl, hb⟩
  have hE : E = okE B1 := by rw [← HE.out, fs_n h1]
  exact ⟨rfl, .inr ⟨by rw [hE]; exact h1, by rw [hE]⟩, below2 HB0.out hb⟩
theorem do_tf (d : DoM) (w : World) (hl : DoL w d) (hz : DoZ d) (ht : Tab w) (hO : ndO d = true) (hN : ndN d = false) : Gives 181 #[.agg d.vals] w (doE d) := by
 have hb0 := Bn w (.cells d.vals 92)
 have hn0 := Hn w (.cells d.vals 92)
 have HH : Hid (DoL w d ∧ Tab w ∧ DoZ d) := ⟨hl, ht, hz⟩
 have HN0 : Hid ((w.alloc (.cells d.vals 92)).heap[w§]? = some (.cells d.vals 92 (0, 0))) := hn0
 have HB0 : Hid (Below w§ w (w.alloc (.cells d.vals 92))) := hb0
 have q0 : (w.alloc (.cells d.vals 92)).cell? ⟨w§, 0, none⟩ = some (zU d.k) := Co hn0 0
 have c0 := wU_any 194 d.k 1 6 (w.alloc (.cells d.vals 92)) (by simp)
 have cn := fun v => nb_any d v
 obtain ⟨E, eE⟩ : ∃ E, doE d = E := ⟨_, rfl⟩
 have HE : Hid (doE d = E) := eE
 rw [eE]
 unfold doE at HE
 rw [hO, hN] at HE
 rw [hO, hN] at cn
 obtain ⟨B1, eB1⟩ : ∃ B, decide (1 ≤ d.k ∧ d.k ≤ 6) = B := ⟨_, rfl⟩
 rw [eB1] at c0 HE
 rw [if_pos rfl] at HE
 obtain ⟨B2, eB2⟩ : ∃ B, decide (1 ≤ d.o ∧ d.o ≤ 5) = B := ⟨_, rfl⟩
 rw [eB2] at HE
 have cO := fun v => wU_any 196 d.o 1 5 v (by simp)
 simp only [eB2] at cO
 rw [if_neg (by decide)] at HE
 obtain ⟨B3, eB3⟩ : ∃ B, d.x.toList.isEmpty = B := ⟨_, rfl⟩
 rw [eB3] at HE
 obtain ⟨bs, ebs⟩ : ∃ q, ndS d = q := ⟨_, rfl⟩
 obtain ⟨bq, ebq⟩ : ∃ q, ndQ d = q := ⟨_, rfl⟩
 obtain ⟨bp, ebp⟩ : ∃ q, ndP d = q := ⟨_, rfl⟩
 obtain ⟨bv, ebv⟩ : ∃ q, ndV d = q := ⟨_, rfl⟩
 rw [ebs, ebq, ebp, ebv] at HE
 simp only [ebs, ebq, ebp, ebv] at cn
 clear hl ht hz eE hb0 hn0 hO hN eB1 ebs ebq ebp ebv
 clear eB2
 unfold Gives
 go_enter Tryz.func181, Tryz.ntmps181
 go_wp2_with fail
 refine c0.mono ?_
 rintro e w0 ⟨rfl, e0⟩
 obtain rfl := e0.symm
 have c1 := (need_gives B1 (w.alloc (.cells d.vals 92))).two
 clear c0 e0
 rcases c1 with ⟨h1, c1⟩ | ⟨h1, c1⟩
 ·go_wp2_with fail
  refine c1.mono ?_
  rintro e w1 ⟨rfl, hb⟩
  have HB1 : Hid (Below w§ w w1) := below2 HB0.out hb
  have hd1 := (hb.block _ (Array.getElem?_eq_some_iff.1 HN0.out).1).trans HN0.out
  have HD1 : Hid (w1.heap[w§]? = some (.cells d.vals 92 (0, 0))) := hd1
  have cn1 := cn w1
  clear c1 hb hd1 q0 HN0 HB0
  go_wp2_with (refine wpList_load_row rfl 92 (.tmp 1) rfl w§ rfl 92 d.vals (0, 0) _ HD1.out Tryz.underlying92 rfl size110' ?_)
  refine cn1.mono ?_
  rintro e wm ⟨rfl, hb⟩
  have hdm := (hb.block _ (Array.getElem?_eq_some_iff.1 HD1.out).1).trans HD1.out
  have hbn := Bn wm (.cells #[.bool true, .bool false, .bool bs, .bool bq, .bool bp, .bool bv] 253)
  have HDM : Hid ((wm.alloc (.cells #[.bool true, .bool false, .bool bs, .bool bq, .bool bp, .bool bv] 253)).heap[w§]? = some (.cells d.vals 92 (0, 0))) := (hbn.block _ (Array.getElem?_eq_some_iff.1 hdm).1).trans hdm
  have HNM : Hid ((wm.alloc (.cells #[.bool true, .bool false, .bool bs, .bool bq, .bool bp, .bool bv] 253)).heap[wm§]? = some (.cells #[.bool true, .bool false, .bool bs, .bool bq, .bool bp, .bool bv] 253 (0, 0))) := Hn _ _
  have HBM : Hid (Below w§ w (wm.alloc (.cells #[.bool true, .bool false, .bool bs, .bool bq, .bool bp, .bool bv] 253))) := below2 (below2 HB1.out hb) hbn
  clear cn1 cn hb hdm hbn HD1 HB1
  go_upto_region 3 with fail
  obtain ⟨NM, eNM⟩ : ∃ q, wm§ = q := ⟨_, rfl⟩
  obtain ⟨WM, eWM⟩ : ∃ W, wm.alloc (.cells #[.bool true, .bool false, .bool bs, .bool bq, .bool bp, .bool bv] 253) = W := ⟨_, rfl⟩
  rw [eWM, eNM] at HNM
  rw [eWM] at HDM HBM
  rw [eWM, eNM]
  clear eWM eNM
  have m0 : WM.cell? ⟨NM, 0, none⟩ = some (.bool true) := Co HNM.out 0
  have p1 : WM.cell? ⟨w§, 1, none⟩ = some (zU d.o) := Co HDM.out 1
  have cO1 := cO WM
  go_wp2_with fail
  refine cO1.mono ?_
  rintro e w0' ⟨rfl, e0⟩
  obtain rfl := e0.symm
  clear cO1 e0 cO
  have c2 := (need_gives B2 WM).two
  rcases c2 with ⟨h2, c2⟩ | ⟨h2, c2⟩
  ·go_wp2_with fail
   refine c2.mono ?_
   rintro e w2 ⟨rfl, hb⟩
   have HB2 : Hid (Below w§ w w2) := below2 HBM.out hb
   have hdm := (hb.block _ (Array.getElem?_eq_some_iff.1 HDM.out).1).trans HDM.out
   have hnm := (hb.block _ (Array.getElem?_eq_some_iff.1 HNM.out).1).trans HNM.out
   have HD2 : Hid (w2.heap[w§]? = some (.cells d.vals 92 (0, 0))) := hdm
   have HN2 : Hid (w2.heap[NM]? = some (.cells #[.bool true, .bool false, .bool bs, .bool bq, .bool bp, .bool bv] 253 (0, 0))) := hnm
   have m1 : w2.cell? ⟨NM, 1, none⟩ = some (.bool false) := Co hnm 1
   have p2 : w2.cell? ⟨w§, 2, none⟩ = some (.string d.x) := Co hdm 2
   clear c2 hb hdm hnm m0 p1 HDM HNM HBM
   have c3 := (need_gives B3 w2).two
   rcases c3 with ⟨h3, c3⟩ | ⟨h3, c3⟩
   ·go_wp2_with fail
    refine c3.mono ?_
    rintro e w3 ⟨rfl, hb⟩
    have HB3 : Hid (Below w§ w w3) := below2 HB2.out hb
    have hdm := (hb.block _ (Array.getElem?_eq_some_iff.1 HD2.out).1).trans HD2.out
    have hnm := (hb.block _ (Array.getElem?_eq_some_iff.1 HN2.out).1).trans HN2.out
    have HD3 : Hid (w3.heap[w§]? = some (.cells d.vals 92 (0, 0))) := hdm
    have HN3 : Hid (w3.heap[NM]? = some (.cells #[.bool true, .bool false, .bool bs, .bool bq, .bool bp, .bool bv] 253 (0, 0))) := hnm
    have m2 : w3.cell? ⟨NM, 2, none⟩ = some (.bool bs) := Co hnm 2
    clear c3 hb hdm hnm m1 p2 HD2 HN2
    have c4 := (part_gives d.sd bs w3 (HH.out.1.1.on HB3.out) HH.out.2.2.1 (HH.out.2.1.on HB3.out)).two
    rcases c4 with ⟨h4, c4⟩ | ⟨h4, c4⟩
    ·go_wp2_with (refine wpList_load_mid rfl 28 (.tmp 28) rfl w§ 3 rfl d.sd.vals.toList _ (nd_rng HD3.out 3 d.sd (do_sd d)) Tryz.underlying28 rfl (size38 d.sd) ?_; rw [toArr])
     refine c4.mono ?_
     rintro e w4 ⟨rfl, hb⟩
     have HB4 : Hid (Below w§ w w4) := below2 HB3.out hb
     have hdm := (hb.block _ (Array.getElem?_eq_some_iff.1 HD3.out).1).trans HD3.out
     have hnm := (hb.block _ (Array.getElem?_eq_some_iff.1 HN3.out).1).trans HN3.out
     have HD4 : Hid (w4.heap[w§]? = some (.cells d.vals 92 (0, 0))) := hdm
     have HN4 : Hid (w4.heap[NM]? = some (.cells #[.bool true, .bool false, .bool bs, .bool bq, .bool bp, .bool bv] 253 (0, 0))) := hnm
     have m3 : w4.cell? ⟨NM, 3, none⟩ = some (.bool bq) := Co hnm 3
     clear c4 hb hdm hnm m2 HD3 HN3
     have c5 := (part_gives d.qt bq w4 (HH.out.1.2.1.on HB4.out) HH.out.2.2.2.1 (HH.out.2.1.on HB4.out)).two
     rcases c5 with ⟨h5, c5⟩ | ⟨h5, c5⟩
     ·go_wp2_with (refine wpList_load_mid rfl 28 (.tmp 33) rfl w§ 11 rfl d.qt.vals.toList _ (nd_rng HD4.out 11 d.qt (do_qt d)) Tryz.underlying28 rfl (size38 d.qt) ?_; rw [toArr])
      refine c5.mono ?_
      rintro e w5 ⟨rfl, hb⟩
      have HB5 : Hid (Below w§ w w5) := below2 HB4.out hb
      have hdm := (hb.block _ (Array.getElem?_eq_some_iff.1 HD4.out).1).trans HD4.out
      have hnm := (hb.block _ (Array.getElem?_eq_some_iff.1 HN4.out).1).trans HN4.out
      have HD5 : Hid (w5.heap[w§]? = some (.cells d.vals 92 (0, 0))) := hdm
      have HN5 : Hid (w5.heap[NM]? = some (.cells #[.bool true, .bool false, .bool bs, .bool bq, .bool bp, .bool bv] 253 (0, 0))) := hnm
      have m4 : w5.cell? ⟨NM, 4, none⟩ = some (.bool bp) := Co hnm 4
      clear c5 hb hdm hnm m3 HD4 HN4
      have c6 := (part_gives d.pr bp w5 (HH.out.1.2.2.1.on HB5.out) HH.out.2.2.2.2.1 (HH.out.2.1.on HB5.out)).two
      rcases c6 with ⟨h6, c6⟩ | ⟨h6, c6⟩
      ·go_wp2_with (refine wpList_load_mid rfl 28 (.tmp 38) rfl w§ 19 rfl d.pr.vals.toList _ (nd_rng HD5.out 19 d.pr (do_pr d)) Tryz.underlying28 rfl (size38 d.pr) ?_; rw [toArr])
       refine c6.mono ?_
       rintro e w6 ⟨rfl, hb⟩
       have HB6 : Hid (Below w§ w w6) := below2 HB5.out hb
       have hdm := (hb.block _ (Array.getElem?_eq_some_iff.1 HD5.out).1).trans HD5.out
       have hnm := (hb.block _ (Array.getElem?_eq_some_iff.1 HN5.out).1).trans HN5.out
       have HD6 : Hid (w6.heap[w§]? = some (.cells d.vals 92 (0, 0))) := hdm
       have HN6 : Hid (w6.heap[NM]? = some (.cells #[.bool true, .bool false, .bool bs, .bool bq, .bool bp, .bool bv] 253 (0, 0))) := hnm
       have m5 : w6.cell? ⟨NM, 5, none⟩ = some (.bool bv) := Co hnm 5
       clear c6 hb hdm hnm m4 HD5 HN5
       have c7 := (part_gives d.vl bv w6 (HH.out.1.2.2.2.1.on HB6.out) HH.out.2.2.2.2.2 (HH.out.2.1.on HB6.out)).two
       rcases c7 with ⟨h7, c7⟩ | ⟨h7, c7⟩
       ·go_wp2_with (refine wpList_load_mid rfl 28 (.tmp 43) rfl w§ 27 rfl d.vl.vals.toList _ (nd_rng HD6.out 27 d.vl (do_vl d)) Tryz.underlying28 rfl (size38 d.vl) ?_; rw [toArr])
        refine c7.mono ?_
        rintro e w7 ⟨rfl, hb⟩
        have HB7 : Hid (Below w§ w w7) := below2 HB6.out hb
        clear c7 hb
        go_wp2_with fail
        go_end0
        exact ⟨.inl ⟨by rw [← HE.out, fs_z h1, fs_z h2, fs_z h3, fs_z h4, fs_z h5, fs_z h6]; exact h7, rfl⟩, HB7.out⟩
       ·go_wp2_with (refine wpList_load_mid rfl 28 (.tmp 43) rfl w§ 27 rfl d.vl.vals.toList _ (nd_rng HD6.out 27 d.vl (do_vl d)) Tryz.underlying28 rfl (size38 d.vl) ?_; rw [toArr])
        refine c7.mono ?_
        rintro e wf ⟨rfl, hb⟩
        have hE : E = partE d.vl bv := by rw [← HE.out, fs_z h1, fs_z h2, fs_z h3, fs_z h4, fs_z h5, fs_z h6]
        exact ⟨rfl, .inr ⟨by rw [hE]; exact h7, by rw [hE]⟩, below2 HB6.out hb⟩
      ·go_wp2_with (refine wpList_load_mid rfl 28 (.tmp 38) rfl w§ 19 rfl d.pr.vals.toList _ (nd_rng HD5.out 19 d.pr (do_pr d)) Tryz.underlying28 rfl (size38 d.pr) ?_; rw [toArr])
       refine c6.mono ?_
       rintro e wf ⟨rfl, hb⟩
       have hE : E = partE d.pr bp := by rw [← HE.out, fs_z h1, fs_z h2, fs_z h3, fs_z h4, fs_z h5, fs_n h6]
       exact ⟨rfl, .inr ⟨by rw [hE]; exact h6, by rw [hE]⟩, below2 HB5.out hb⟩
     ·go_wp2_with (refine wpList_load_mid rfl 28 (.tmp 33) rfl w§ 11 rfl d.qt.vals.toList _ (nd_rng HD4.out 11 d.qt (do_qt d)) Tryz.underlying28 rfl (size38 d.qt) ?_; rw [toArr])
      refine c5.mono ?_
      rintro e wf ⟨rfl, hb⟩
      have hE : E = partE d.qt bq := by rw [← HE.out, fs_z h1, fs_z h2, fs_z h3, fs_z h4, fs_n h5]
      exact ⟨rfl, .inr ⟨by rw [hE]; exact h5, by rw [hE]⟩, below2 HB4.out hb⟩
    ·go_wp2_with (refine wpList_load_mid rfl 28 (.tmp 28) rfl w§ 3 rfl d.sd.vals.toList _ (nd_rng HD3.out 3 d.sd (do_sd d)) Tryz.underlying28 rfl (size38 d.sd) ?_; rw [toArr])
     refine c4.mono ?_
     rintro e wf ⟨rfl, hb⟩
     have hE : E = partE d.sd bs := by rw [← HE.out, fs_z h1, fs_z h2, fs_z h3, fs_n h4]
     exact ⟨rfl, .inr ⟨by rw [hE]; exact h4, by rw [hE]⟩, below2 HB3.out hb⟩
   ·go_wp2_with fail
    refine c3.mono ?_
    rintro e wf ⟨rfl, hb⟩
    have hE : E = okE B3 := by rw [← HE.out, fs_z h1, fs_z h2, fs_n h3]
    exact ⟨rfl, .inr ⟨by rw [hE]; exact h3, by rw [hE]⟩, below2 HB2.out hb⟩
  ·go_wp2_with fail
   refine c2.mono ?_
   rintro e wf ⟨rfl, hb⟩
   have hE : E = okE B2 := by rw [← HE.out, fs_z h1, fs_n h2]
   exact ⟨rfl, .inr ⟨by rw [hE]; exact h2, by rw [hE]⟩, below2 HBM.out hb⟩
 ·go_wp2_with fail
  refine c1.mono ?_
  rintro e wf ⟨rfl, hb⟩
  have hE : E = okE B1 := by rw [← HE.out, fs_n h1]
  exact ⟨rfl, .inr ⟨by rw [hE]; exact h1, by rw [hE]⟩, below2 HB0.out hb⟩
theorem do_ft (d : DoM) (w : World) (hl : DoL w d) (hz : DoZ d) (ht : Tab w) (hO : ndO d = false) (hN : ndN d = true) : Gives 181 #[.agg d.vals] w (doE d) := by
 have hb0 := Bn w (.cells d.vals 92)
 have hn0 := Hn w (.cells d.vals 92)
 have HH : Hid (DoL w d ∧ Tab w ∧ DoZ d) := ⟨hl, ht, hz⟩
 have HN0 : Hid ((w.alloc (.cells d.vals 92)).heap[w§]? = some (.cells d.vals 92 (0, 0))) := hn0
 have HB0 : Hid (Below w§ w (w.alloc (.cells d.vals 92))) := hb0
 have q0 : (w.alloc (.cells d.vals 92)).cell? ⟨w§, 0, none⟩ = some (zU d.k) := Co hn0 0
 have c0 := wU_any 194 d.k 1 6 (w.alloc (.cells d.vals 92)) (by simp)
 have cn := fun v => nb_any d v
 obtain ⟨E, eE⟩ : ∃ E, doE d = E := ⟨_, rfl⟩
 have HE : Hid (doE d = E) := eE
 rw [eE]
 unfold doE at HE
 rw [hO, hN] at HE
 rw [hO, hN] at cn
 obtain ⟨B1, eB1⟩ : ∃ B, decide (1 ≤ d.k ∧ d.k ≤ 6) = B := ⟨_, rfl⟩
 rw [eB1] at c0 HE
 rw [if_neg (by decide)] at HE
 obtain ⟨B2, eB2⟩ : ∃ B, decide (d.o = 0) = B := ⟨_, rfl⟩
 have eB2' : (d.o == 0) = B2 := by rw [← eB2]; rfl
 rw [eB2] at HE
 rw [if_pos rfl] at HE
 obtain ⟨bs, ebs⟩ : ∃ q, ndS d = q := ⟨_, rfl⟩
 obtain ⟨bq, ebq⟩ : ∃ q, ndQ d = q := ⟨_, rfl⟩
 obtain ⟨bp, ebp⟩ : ∃ q, ndP d = q := ⟨_, rfl⟩
 obtain ⟨bv, ebv⟩ : ∃ q, ndV d = q := ⟨_, rfl⟩
 rw [ebs, ebq, ebp, ebv] at HE
 simp only [ebs, ebq, ebp, ebv] at cn
 clear hl ht hz eE hb0 hn0 hO hN eB1 ebs ebq ebp ebv
 clear eB2
 unfold Gives
 go_enter Tryz.func181, Tryz.ntmps181
 go_wp2_with fail
 refine c0.mono ?_
 rintro e w0 ⟨rfl, e0⟩
 obtain rfl := e0.symm
 have c1 := (need_gives B1 (w.alloc (.cells d.vals 92))).two
 clear c0 e0
 rcases c1 with ⟨h1, c1⟩ | ⟨h1, c1⟩
 ·go_wp2_with fail
  refine c1.mono ?_
  rintro e w1 ⟨rfl, hb⟩
  have HB1 : Hid (Below w§ w w1) := below2 HB0.out hb
  have hd1 := (hb.block _ (Array.getElem?_eq_some_iff.1 HN0.out).1).trans HN0.out
  have HD1 : Hid (w1.heap[w§]? = some (.cells d.vals 92 (0, 0))) := hd1
  have cn1 := cn w1
  clear c1 hb hd1 q0 HN0 HB0
  go_wp2_with (refine wpList_load_row rfl 92 (.tmp 1) rfl w§ rfl 92 d.vals (0, 0) _ HD1.out Tryz.underlying92 rfl size110' ?_)
  refine cn1.mono ?_
  rintro e wm ⟨rfl, hb⟩
  have hdm := (hb.block _ (Array.getElem?_eq_some_iff.1 HD1.out).1).trans HD1.out
  have hbn := Bn wm (.cells #[.bool false, .bool true, .bool bs, .bool bq, .bool bp, .bool bv] 253)
  have HDM : Hid ((wm.alloc (.cells #[.bool false, .bool true, .bool bs, .bool bq, .bool bp, .bool bv] 253)).heap[w§]? = some (.cells d.vals 92 (0, 0))) := (hbn.block _ (Array.getElem?_eq_some_iff.1 hdm).1).trans hdm
  have HNM : Hid ((wm.alloc (.cells #[.bool false, .bool true, .bool bs, .bool bq, .bool bp, .bool bv] 253)).heap[wm§]? = some (.cells #[.bool false, .bool true, .bool bs, .bool bq, .bool bp, .bool bv] 253 (0, 0))) := Hn _ _
  have HBM : Hid (Below w§ w (wm.alloc (.cells #[.bool false, .bool true, .bool bs, .bool bq, .bool bp, .bool bv] 253))) := below2 (below2 HB1.out hb) hbn
  clear cn1 cn hb hdm hbn HD1 HB1
  go_upto_region 3 with fail
  obtain ⟨NM, eNM⟩ : ∃ q, wm§ = q := ⟨_, rfl⟩
  obtain ⟨WM, eWM⟩ : ∃ W, wm.alloc (.cells #[.bool false, .bool true, .bool bs, .bool bq, .bool bp, .bool bv] 253) = W := ⟨_, rfl⟩
  rw [eWM, eNM] at HNM
  rw [eWM] at HDM HBM
  rw [eWM, eNM]
  clear eWM eNM
  have m0 : WM.cell? ⟨NM, 0, none⟩ = some (.bool false) := Co HNM.out 0
  have p1 : WM.cell? ⟨w§, 1, none⟩ = some (zU d.o) := Co HDM.out 1
  have c2 := (need_gives B2 WM).two
  rcases c2 with ⟨h2, c2⟩ | ⟨h2, c2⟩
  ·go_wp2_with fail
   refine c2.mono ?_
   rintro e w2 ⟨rfl, hb⟩
   have HB2 : Hid (Below w§ w w2) := below2 HBM.out hb
   have hdm := (hb.block _ (Array.getElem?_eq_some_iff.1 HDM.out).1).trans HDM.out
   have hnm := (hb.block _ (Array.getElem?_eq_some_iff.1 HNM.out).1).trans HNM.out
   have HD2 : Hid (w2.heap[w§]? = some (.cells d.vals 92 (0, 0))) := hdm
   have HN2 : Hid (w2.heap[NM]? = some (.cells #[.bool false, .bool true, .bool bs, .bool bq, .bool bp, .bool bv] 253 (0, 0))) := hnm
   have m1 : w2.cell? ⟨NM, 1, none⟩ = some (.bool true) := Co hnm 1
   have p2 : w2.cell? ⟨w§, 2, none⟩ = some (.string d.x) := Co hdm 2
   clear c2 hb hdm hnm m0 p1 HDM HNM HBM
   have c3 := (nm_gives (x := d.x) HH.out.1.2.2.2.2.2.2.2 (HH.out.2.1.on HB2.out)).two
   rcases c3 with ⟨h3, c3⟩ | ⟨h3, c3⟩
   ·go_wp2_with fail
    refine c3.mono ?_
    rintro e w3 ⟨rfl, hb⟩
    have HB3 : Hid (Below w§ w w3) := below2 HB2.out hb
    have hdm := (hb.block _ (Array.getElem?_eq_some_iff.1 HD2.out).1).trans HD2.out
    have hnm := (hb.block _ (Array.getElem?_eq_some_iff.1 HN2.out).1).trans HN2.out
    have HD3 : Hid (w3.heap[w§]? = some (.cells d.vals 92 (0, 0))) := hdm
    have HN3 : Hid (w3.heap[NM]? = some (.cells #[.bool false, .bool true, .bool bs, .bool bq, .bool bp, .bool bv] 253 (0, 0))) := hnm
    have m2 : w3.cell? ⟨NM, 2, none⟩ = some (.bool bs) := Co hnm 2
    clear c3 hb hdm hnm m1 p2 HD2 HN2
    have c4 := (part_gives d.sd bs w3 (HH.out.1.1.on HB3.out) HH.out.2.2.1 (HH.out.2.1.on HB3.out)).two
    rcases c4 with ⟨h4, c4⟩ | ⟨h4, c4⟩
    ·go_wp2_with (refine wpList_load_mid rfl 28 (.tmp 28) rfl w§ 3 rfl d.sd.vals.toList _ (nd_rng HD3.out 3 d.sd (do_sd d)) Tryz.underlying28 rfl (size38 d.sd) ?_; rw [toArr])
     refine c4.mono ?_
     rintro e w4 ⟨rfl, hb⟩
     have HB4 : Hid (Below w§ w w4) := below2 HB3.out hb
     have hdm := (hb.block _ (Array.getElem?_eq_some_iff.1 HD3.out).1).trans HD3.out
     have hnm := (hb.block _ (Array.getElem?_eq_some_iff.1 HN3.out).1).trans HN3.out
     have HD4 : Hid (w4.heap[w§]? = some (.cells d.vals 92 (0, 0))) := hdm
     have HN4 : Hid (w4.heap[NM]? = some (.cells #[.bool false, .bool true, .bool bs, .bool bq, .bool bp, .bool bv] 253 (0, 0))) := hnm
     have m3 : w4.cell? ⟨NM, 3, none⟩ = some (.bool bq) := Co hnm 3
     clear c4 hb hdm hnm m2 HD3 HN3
     have c5 := (part_gives d.qt bq w4 (HH.out.1.2.1.on HB4.out) HH.out.2.2.2.1 (HH.out.2.1.on HB4.out)).two
     rcases c5 with ⟨h5, c5⟩ | ⟨h5, c5⟩
     ·go_wp2_with (refine wpList_load_mid rfl 28 (.tmp 33) rfl w§ 11 rfl d.qt.vals.toList _ (nd_rng HD4.out 11 d.qt (do_qt d)) Tryz.underlying28 rfl (size38 d.qt) ?_; rw [toArr])
      refine c5.mono ?_
      rintro e w5 ⟨rfl, hb⟩
      have HB5 : Hid (Below w§ w w5) := below2 HB4.out hb
      have hdm := (hb.block _ (Array.getElem?_eq_some_iff.1 HD4.out).1).trans HD4.out
      have hnm := (hb.block _ (Array.getElem?_eq_some_iff.1 HN4.out).1).trans HN4.out
      have HD5 : Hid (w5.heap[w§]? = some (.cells d.vals 92 (0, 0))) := hdm
      have HN5 : Hid (w5.heap[NM]? = some (.cells #[.bool false, .bool true, .bool bs, .bool bq, .bool bp, .bool bv] 253 (0, 0))) := hnm
      have m4 : w5.cell? ⟨NM, 4, none⟩ = some (.bool bp) := Co hnm 4
      clear c5 hb hdm hnm m3 HD4 HN4
      have c6 := (part_gives d.pr bp w5 (HH.out.1.2.2.1.on HB5.out) HH.out.2.2.2.2.1 (HH.out.2.1.on HB5.out)).two
      rcases c6 with ⟨h6, c6⟩ | ⟨h6, c6⟩
      ·go_wp2_with (refine wpList_load_mid rfl 28 (.tmp 38) rfl w§ 19 rfl d.pr.vals.toList _ (nd_rng HD5.out 19 d.pr (do_pr d)) Tryz.underlying28 rfl (size38 d.pr) ?_; rw [toArr])
       refine c6.mono ?_
       rintro e w6 ⟨rfl, hb⟩
       have HB6 : Hid (Below w§ w w6) := below2 HB5.out hb
       have hdm := (hb.block _ (Array.getElem?_eq_some_iff.1 HD5.out).1).trans HD5.out
       have hnm := (hb.block _ (Array.getElem?_eq_some_iff.1 HN5.out).1).trans HN5.out
       have HD6 : Hid (w6.heap[w§]? = some (.cells d.vals 92 (0, 0))) := hdm
       have HN6 : Hid (w6.heap[NM]? = some (.cells #[.bool false, .bool true, .bool bs, .bool bq, .bool bp, .bool bv] 253 (0, 0))) := hnm
       have m5 : w6.cell? ⟨NM, 5, none⟩ = some (.bool bv) := Co hnm 5
       clear c6 hb hdm hnm m4 HD5 HN5
       have c7 := (part_gives d.vl bv w6 (HH.out.1.2.2.2.1.on HB6.out) HH.out.2.2.2.2.2 (HH.out.2.1.on HB6.out)).two
       rcases c7 with ⟨h7, c7⟩ | ⟨h7, c7⟩
       ·go_wp2_with (refine wpList_load_mid rfl 28 (.tmp 43) rfl w§ 27 rfl d.vl.vals.toList _ (nd_rng HD6.out 27 d.vl (do_vl d)) Tryz.underlying28 rfl (size38 d.vl) ?_; rw [toArr])
        refine c7.mono ?_
        rintro e w7 ⟨rfl, hb⟩
        have HB7 : Hid (Below w§ w w7) := below2 HB6.out hb
        clear c7 hb
        go_wp2_with fail
        go_end0
        exact ⟨.inl ⟨by rw [← HE.out, fs_z h1, fs_z h2, fs_z h3, fs_z h4, fs_z h5, fs_z h6]; exact h7, rfl⟩, HB7.out⟩
       ·go_wp2_with (refine wpList_load_mid rfl 28 (.tmp 43) rfl w§ 27 rfl d.vl.vals.toList _ (nd_rng HD6.out 27 d.vl (do_vl d)) Tryz.underlying28 rfl (size38 d.vl) ?_; rw [toArr])
        refine c7.mono ?_
        rintro e wf ⟨rfl, hb⟩
        have hE : E = partE d.vl bv := by rw [← HE.out, fs_z h1, fs_z h2, fs_z h3, fs_z h4, fs_z h5, fs_z h6]
        exact ⟨rfl, .inr ⟨by rw [hE]; exact h7, by rw [hE]⟩, below2 HB6.out hb⟩
      ·go_wp2_with (refine wpList_load_mid rfl 28 (.tmp 38) rfl w§ 19 rfl d.pr.vals.toList _ (nd_rng HD5.out 19 d.pr (do_pr d)) Tryz.underlying28 rfl (size38 d.pr) ?_; rw [toArr])
       refine c6.mono ?_
       rintro e wf ⟨rfl, hb⟩
       have hE : E = partE d.pr bp := by rw [← HE.out, fs_z h1, fs_z h2, fs_z h3, fs_z h4, fs_z h5, fs_n h6]
       exact ⟨rfl, .inr ⟨by rw [hE]; exact h6, by rw [hE]⟩, below2 HB5.out hb⟩
     ·go_wp2_with (refine wpList_load_mid rfl 28 (.tmp 33) rfl w§ 11 rfl d.qt.vals.toList _ (nd_rng HD4.out 11 d.qt (do_qt d)) Tryz.underlying28 rfl (size38 d.qt) ?_; rw [toArr])
      refine c5.mono ?_
      rintro e wf ⟨rfl, hb⟩
      have hE : E = partE d.qt bq := by rw [← HE.out, fs_z h1, fs_z h2, fs_z h3, fs_z h4, fs_n h5]
      exact ⟨rfl, .inr ⟨by rw [hE]; exact h5, by rw [hE]⟩, below2 HB4.out hb⟩
    ·go_wp2_with (refine wpList_load_mid rfl 28 (.tmp 28) rfl w§ 3 rfl d.sd.vals.toList _ (nd_rng HD3.out 3 d.sd (do_sd d)) Tryz.underlying28 rfl (size38 d.sd) ?_; rw [toArr])
     refine c4.mono ?_
     rintro e wf ⟨rfl, hb⟩
     have hE : E = partE d.sd bs := by rw [← HE.out, fs_z h1, fs_z h2, fs_z h3, fs_n h4]
     exact ⟨rfl, .inr ⟨by rw [hE]; exact h4, by rw [hE]⟩, below2 HB3.out hb⟩
   ·go_wp2_with fail
    refine c3.mono ?_
    rintro e wf ⟨rfl, hb⟩
    have hE : E = (namE d.x) := by rw [← HE.out, fs_z h1, fs_z h2, fs_n h3]
    exact ⟨rfl, .inr ⟨by rw [hE]; exact h3, by rw [hE]⟩, below2 HB2.out hb⟩
  ·go_wp2_with fail
   refine c2.mono ?_
   rintro e wf ⟨rfl, hb⟩
   have hE : E = okE B2 := by rw [← HE.out, fs_z h1, fs_n h2]
   exact ⟨rfl, .inr ⟨by rw [hE]; exact h2, by rw [hE]⟩, below2 HBM.out hb⟩
 ·go_wp2_with fail
  refine c1.mono ?_
  rintro e wf ⟨rfl, hb⟩
  have hE : E = okE B1 := by rw [← HE.out, fs_n h1]
  exact ⟨rfl, .inr ⟨by rw [hE]; exact h1, by rw [hE]⟩, below2 HB0.out hb⟩
theorem do_ff (d : DoM) (w : World) (hl : DoL w d) (hz : DoZ d) (ht : Tab w) (hO : ndO d = false) (hN : ndN d = false) : Gives 181 #[.agg d.vals] w (doE d) := by
 have hb0 := Bn w (.cells d.vals 92)
 have hn0 := Hn w (.cells d.vals 92)
 have HH : Hid (DoL w d ∧ Tab w ∧ DoZ d) := ⟨hl, ht, hz⟩
 have HN0 : Hid ((w.alloc (.cells d.vals 92)).heap[w§]? = some (.cells d.vals 92 (0, 0))) := hn0
 have HB0 : Hid (Below w§ w (w.alloc (.cells d.vals 92))) := hb0
 have q0 : (w.alloc (.cells d.vals 92)).cell? ⟨w§, 0, none⟩ = some (zU d.k) := Co hn0 0
 have c0 := wU_any 194 d.k 1 6 (w.alloc (.cells d.vals 92)) (by simp)
 have cn := fun v => nb_any d v
 obtain ⟨E, eE⟩ : ∃ E, doE d = E := ⟨_, rfl⟩
 have HE : Hid (doE d = E) := eE
 rw [eE]
 unfold doE at HE
 rw [hO, hN] at HE
 rw [hO, hN] at cn
 obtain ⟨B1, eB1⟩ : ∃ B, decide (1 ≤ d.k ∧ d.k ≤ 6) = B := ⟨_, rfl⟩
 rw [eB1] at c0 HE
 rw [if_neg (by decide)] at HE
 obtain ⟨B2, eB2⟩ : ∃ B, decide (d.o = 0) = B := ⟨_, rfl⟩
 have eB2' : (d.o == 0) = B2 := by rw [← eB2]; rfl
 rw [eB2] at HE
 rw [if_neg (by decide)] at HE
 obtain ⟨B3, eB3⟩ : ∃ B, d.x.toList.isEmpty = B := ⟨_, rfl⟩
 rw [eB3] at HE
 obtain ⟨bs, ebs⟩ : ∃ q, ndS d = q := ⟨_, rfl⟩
 obtain ⟨bq, ebq⟩ : ∃ q, ndQ d = q := ⟨_, rfl⟩
 obtain ⟨bp, ebp⟩ : ∃ q, ndP d = q := ⟨_, rfl⟩
 obtain ⟨bv, ebv⟩ : ∃ q, ndV d = q := ⟨_, rfl⟩
 rw [ebs, ebq, ebp, ebv] at HE
 simp only [ebs, ebq, ebp, ebv] at cn
 clear hl ht hz eE hb0 hn0 hO hN eB1 ebs ebq ebp ebv
 clear eB2
 unfold Gives
 go_enter Tryz.func181, Tryz.ntmps181
 go_wp2_with fail
 refine c0.mono ?_
 rintro e w0 ⟨rfl, e0⟩
 obtain rfl := e0.symm
 have c1 := (need_gives B1 (w.alloc (.cells d.vals 92))).two
 clear c0 e0
 rcases c1 with ⟨h1, c1⟩ | ⟨h1, c1⟩
 ·go_wp2_with fail
  refine c1.mono ?_
  rintro e w1 ⟨rfl, hb⟩
  have HB1 : Hid (Below w§ w w1) := below2 HB0.out hb
  have hd1 := (hb.block _ (Array.getElem?_eq_some_iff.1 HN0.out).1).trans HN0.out
  have HD1 : Hid (w1.heap[w§]? = some (.cells d.vals 92 (0, 0))) := hd1
  have cn1 := cn w1
  clear c1 hb hd1 q0 HN0 HB0
  go_wp2_with (refine wpList_load_row rfl 92 (.tmp 1) rfl w§ rfl 92 d.vals (0, 0) _ HD1.out Tryz.underlying92 rfl size110' ?_)
  refine cn1.mono ?_
  rintro e wm ⟨rfl, hb⟩
  have hdm := (hb.block _ (Array.getElem?_eq_some_iff.1 HD1.out).1).trans HD1.out
  have hbn := Bn wm (.cells #[.bool false, .bool false, .bool bs, .bool bq, .bool bp, .bool bv] 253)
  have HDM : Hid ((wm.alloc (.cells #[.bool false, .bool false, .bool bs, .bool bq, .bool bp, .bool bv] 253)).heap[w§]? = some (.cells d.vals 92 (0, 0))) := (hbn.block _ (Array.getElem?_eq_some_iff.1 hdm).1).trans hdm
  have HNM : Hid ((wm.alloc (.cells #[.bool false, .bool false, .bool bs, .bool bq, .bool bp, .bool bv] 253)).heap[wm§]? = some (.cells #[.bool false, .bool false, .bool bs, .bool bq, .bool bp, .bool bv] 253 (0, 0))) := Hn _ _
  have HBM : Hid (Below w§ w (wm.alloc (.cells #[.bool false, .bool false, .bool bs, .bool bq, .bool bp, .bool bv] 253))) := below2 (below2 HB1.out hb) hbn
  clear cn1 cn hb hdm hbn HD1 HB1
  go_upto_region 3 with fail
  obtain ⟨NM, eNM⟩ : ∃ q, wm§ = q := ⟨_, rfl⟩
  obtain ⟨WM, eWM⟩ : ∃ W, wm.alloc (.cells #[.bool false, .bool false, .bool bs, .bool bq, .bool bp, .bool bv] 253) = W := ⟨_, rfl⟩
  rw [eWM, eNM] at HNM
  rw [eWM] at HDM HBM
  rw [eWM, eNM]
  clear eWM eNM
  have m0 : WM.cell? ⟨NM, 0, none⟩ = some (.bool false) := Co HNM.out 0
  have p1 : WM.cell? ⟨w§, 1, none⟩ = some (zU d.o) := Co HDM.out 1
  have c2 := (need_gives B2 WM).two
  rcases c2 with ⟨h2, c2⟩ | ⟨h2, c2⟩
  ·go_wp2_with fail
   refine c2.mono ?_
   rintro e w2 ⟨rfl, hb⟩
   have HB2 : Hid (Below w§ w w2) := below2 HBM.out hb
   have hdm := (hb.block _ (Array.getElem?_eq_some_iff.1 HDM.out).1).trans HDM.out
   have hnm := (hb.block _ (Array.getElem?_eq_some_iff.1 HNM.out).1).trans HNM.out
   have HD2 : Hid (w2.heap[w§]? = some (.cells d.vals 92 (0, 0))) := hdm
   have HN2 : Hid (w2.heap[NM]? = some (.cells #[.bool false, .bool false, .bool bs, .bool bq, .bool bp, .bool bv] 253 (0, 0))) := hnm
   have m1 : w2.cell? ⟨NM, 1, none⟩ = some (.bool false) := Co hnm 1
   have p2 : w2.cell? ⟨w§, 2, none⟩ = some (.string d.x) := Co hdm 2
   clear c2 hb hdm hnm m0 p1 HDM HNM HBM
   have c3 := (need_gives B3 w2).two
   rcases c3 with ⟨h3, c3⟩ | ⟨h3, c3⟩
   ·go_wp2_with fail
    refine c3.mono ?_
    rintro e w3 ⟨rfl, hb⟩
    have HB3 : Hid (Below w§ w w3) := below2 HB2.out hb
    have hdm := (hb.block _ (Array.getElem?_eq_some_iff.1 HD2.out).1).trans HD2.out
    have hnm := (hb.block _ (Array.getElem?_eq_some_iff.1 HN2.out).1).trans HN2.out
    have HD3 : Hid (w3.heap[w§]? = some (.cells d.vals 92 (0, 0))) := hdm
    have HN3 : Hid (w3.heap[NM]? = some (.cells #[.bool false, .bool false, .bool bs, .bool bq, .bool bp, .bool bv] 253 (0, 0))) := hnm
    have m2 : w3.cell? ⟨NM, 2, none⟩ = some (.bool bs) := Co hnm 2
    clear c3 hb hdm hnm m1 p2 HD2 HN2
    have c4 := (part_gives d.sd bs w3 (HH.out.1.1.on HB3.out) HH.out.2.2.1 (HH.out.2.1.on HB3.out)).two
    rcases c4 with ⟨h4, c4⟩ | ⟨h4, c4⟩
    ·go_wp2_with (refine wpList_load_mid rfl 28 (.tmp 28) rfl w§ 3 rfl d.sd.vals.toList _ (nd_rng HD3.out 3 d.sd (do_sd d)) Tryz.underlying28 rfl (size38 d.sd) ?_; rw [toArr])
     refine c4.mono ?_
     rintro e w4 ⟨rfl, hb⟩
     have HB4 : Hid (Below w§ w w4) := below2 HB3.out hb
     have hdm := (hb.block _ (Array.getElem?_eq_some_iff.1 HD3.out).1).trans HD3.out
     have hnm := (hb.block _ (Array.getElem?_eq_some_iff.1 HN3.out).1).trans HN3.out
     have HD4 : Hid (w4.heap[w§]? = some (.cells d.vals 92 (0, 0))) := hdm
     have HN4 : Hid (w4.heap[NM]? = some (.cells #[.bool false, .bool false, .bool bs, .bool bq, .bool bp, .bool bv] 253 (0, 0))) := hnm
     have m3 : w4.cell? ⟨NM, 3, none⟩ = some (.bool bq) := Co hnm 3
     clear c4 hb hdm hnm m2 HD3 HN3
     have c5 := (part_gives d.qt bq w4 (HH.out.1.2.1.on HB4.out) HH.out.2.2.2.1 (HH.out.2.1.on HB4.out)).two
     rcases c5 with ⟨h5, c5⟩ | ⟨h5, c5⟩
     ·go_wp2_with (refine wpList_load_mid rfl 28 (.tmp 33) rfl w§ 11 rfl d.qt.vals.toList _ (nd_rng HD4.out 11 d.qt (do_qt d)) Tryz.underlying28 rfl (size38 d.qt) ?_; rw [toArr])
      refine c5.mono ?_
      rintro e w5 ⟨rfl, hb⟩
      have HB5 : Hid (Below w§ w w5) := below2 HB4.out hb
      have hdm := (hb.block _ (Array.getElem?_eq_some_iff.1 HD4.out).1).trans HD4.out
      have hnm := (hb.block _ (Array.getElem?_eq_some_iff.1 HN4.out).1).trans HN4.out
      have HD5 : Hid (w5.heap[w§]? = some (.cells d.vals 92 (0, 0))) := hdm
      have HN5 : Hid (w5.heap[NM]? = some (.cells #[.bool false, .bool false, .bool bs, .bool bq, .bool bp, .bool bv] 253 (0, 0))) := hnm
      have m4 : w5.cell? ⟨NM, 4, none⟩ = some (.bool bp) := Co hnm 4
      clear c5 hb hdm hnm m3 HD4 HN4
      have c6 := (part_gives d.pr bp w5 (HH.out.1.2.2.1.on HB5.out) HH.out.2.2.2.2.1 (HH.out.2.1.on HB5.out)).two
      rcases c6 with ⟨h6, c6⟩ | ⟨h6, c6⟩
      ·go_wp2_with (refine wpList_load_mid rfl 28 (.tmp 38) rfl w§ 19 rfl d.pr.vals.toList _ (nd_rng HD5.out 19 d.pr (do_pr d)) Tryz.underlying28 rfl (size38 d.pr) ?_; rw [toArr])
       refine c6.mono ?_
       rintro e w6 ⟨rfl, hb⟩
       have HB6 : Hid (Below w§ w w6) := below2 HB5.out hb
       have hdm := (hb.block _ (Array.getElem?_eq_some_iff.1 HD5.out).1).trans HD5.out
       have hnm := (hb.block _ (Array.getElem?_eq_some_iff.1 HN5.out).1).trans HN5.out
       have HD6 : Hid (w6.heap[w§]? = some (.cells d.vals 92 (0, 0))) := hdm
       have HN6 : Hid (w6.heap[NM]? = some (.cells #[.bool false, .bool false, .bool bs, .bool bq, .bool bp, .bool bv] 253 (0, 0))) := hnm
       have m5 : w6.cell? ⟨NM, 5, none⟩ = some (.bool bv) := Co hnm 5
       clear c6 hb hdm hnm m4 HD5 HN5
       have c7 := (part_gives d.vl bv w6 (HH.out.1.2.2.2.1.on HB6.out) HH.out.2.2.2.2.2 (HH.out.2.1.on HB6.out)).two
       rcases c7 with ⟨h7, c7⟩ | ⟨h7, c7⟩
       ·go_wp2_with (refine wpList_load_mid rfl 28 (.tmp 43) rfl w§ 27 rfl d.vl.vals.toList _ (nd_rng HD6.out 27 d.vl (do_vl d)) Tryz.underlying28 rfl (size38 d.vl) ?_; rw [toArr])
        refine c7.mono ?_
        rintro e w7 ⟨rfl, hb⟩
        have HB7 : Hid (Below w§ w w7) := below2 HB6.out hb
        clear c7 hb
        go_wp2_with fail
        go_end0
        exact ⟨.inl ⟨by rw [← HE.out, fs_z h1, fs_z h2, fs_z h3, fs_z h4, fs_z h5, fs_z h6]; exact h7, rfl⟩, HB7.out⟩
       ·go_wp2_with (refine wpList_load_mid rfl 28 (.tmp 43) rfl w§ 27 rfl d.vl.vals.toList _ (nd_rng HD6.out 27 d.vl (do_vl d)) Tryz.underlying28 rfl (size38 d.vl) ?_; rw [toArr])
        refine c7.mono ?_
        rintro e wf ⟨rfl, hb⟩
        have hE : E = partE d.vl bv := by rw [← HE.out, fs_z h1, fs_z h2, fs_z h3, fs_z h4, fs_z h5, fs_z h6]
        exact ⟨rfl, .inr ⟨by rw [hE]; exact h7, by rw [hE]⟩, below2 HB6.out hb⟩
      ·go_wp2_with (refine wpList_load_mid rfl 28 (.tmp 38) rfl w§ 19 rfl d.pr.vals.toList _ (nd_rng HD5.out 19 d.pr (do_pr d)) Tryz.underlying28 rfl (size38 d.pr) ?_; rw [toArr])
       refine c6.mono ?_
       rintro e wf ⟨rfl, hb⟩
       have hE : E = partE d.pr bp := by rw [← HE.out, fs_z h1, fs_z h2, fs_z h3, fs_z h4, fs_z h5, fs_n h6]
       exact ⟨rfl, .inr ⟨by rw [hE]; exact h6, by rw [hE]⟩, below2 HB5.out hb⟩
     ·go_wp2_with (refine wpList_load_mid rfl 28 (.tmp 33) rfl w§ 11 rfl d.qt.vals.toList _ (nd_rng HD4.out 11 d.qt (do_qt d)) Tryz.underlying28 rfl (size38 d.qt) ?_; rw [toArr])
      refine c5.mono ?_
      rintro e wf ⟨rfl, hb⟩
      have hE : E = partE d.qt bq := by rw [← HE.out, fs_z h1, fs_z h2, fs_z h3, fs_z h4, fs_n h5]
      exact ⟨rfl, .inr ⟨by rw [hE]; exact h5, by rw [hE]⟩, below2 HB4.out hb⟩
    ·go_wp2_with (refine wpList_load_mid rfl 28 (.tmp 28) rfl w§ 3 rfl d.sd.vals.toList _ (nd_rng HD3.out 3 d.sd (do_sd d)) Tryz.underlying28 rfl (size38 d.sd) ?_; rw [toArr])
     refine c4.mono ?_
     rintro e wf ⟨rfl, hb⟩
     have hE : E = partE d.sd bs := by rw [← HE.out, fs_z h1, fs_z h2, fs_z h3, fs_n h4]
     exact ⟨rfl, .inr ⟨by rw [hE]; exact h4, by rw [hE]⟩, below2 HB3.out hb⟩
   ·go_wp2_with fail
    refine c3.mono ?_
    rintro e wf ⟨rfl, hb⟩
    have hE : E = okE B3 := by rw [← HE.out, fs_z h1, fs_z h2, fs_n h3]
    exact ⟨rfl, .inr ⟨by rw [hE]; exact h3, by rw [hE]⟩, below2 HB2.out hb⟩
  ·go_wp2_with fail
   refine c2.mono ?_
   rintro e wf ⟨rfl, hb⟩
   have hE : E = okE B2 := by rw [← HE.out, fs_z h1, fs_n h2]
   exact ⟨rfl, .inr ⟨by rw [hE]; exact h2, by rw [hE]⟩, below2 HBM.out hb⟩
 ·go_wp2_with fail
  refine c1.mono ?_
  rintro e wf ⟨rfl, hb⟩
  have hE : E = okE B1 := by rw [← HE.out, fs_n h1]
  exact ⟨rfl, .inr ⟨by rw [hE]; exact h1, by rw [hE]⟩, below2 HB0.out hb⟩
theorem do_gives (d : DoM) (w : World) (hl : DoL w d) (hz : DoZ d) (ht : Tab w) : Gives 181 #[.agg d.vals] w (doE d) := by
 cases hO : ndO d <;> cases hN : ndN d
 ·exact do_ff d w hl hz ht hO hN
 ·exact do_ft d w hl hz ht hO hN
 ·exact do_tf d w hl hz ht hO hN
 ·exact do_tt d w hl hz ht hO hN
def ruleE (r : RuleM) : Int := fs (cE r.m) (fs (cntE r.ds.length 1 8) (fsL (r.ds.map doE)))
def RuleZ (r : RuleM) : Prop := size r.m ≤ 1000000000000 ∧ ∀ d ∈ r.ds, DoZ d
def stateE (r : StateM) : Int := fs (namE r.x) (fs (cntE r.rs.length 0 12) (fsL (r.rs.map ruleE)))
def StateZ (r : StateM) : Prop := ∀ d ∈ r.rs, RuleZ d
theorem rule_m (r : RuleM) : ∀ j, j < 8 → r.vals[0 + j]? = r.m.vals.toList[j]? := fun j hj => by
 match j, hj with
 | 0, _ => rfl
 | 1, _ => rfl
 | 2, _ => rfl
 | 3, _ => rfl
 | 4, _ => rfl
 | 5, _ => rfl
 | 6, _ => rfl
 | 7, _ => rfl
theorem rule_gives (r : RuleM) (w : World) (hl : RuleL w r) (hz : RuleZ r) (ht : Tab w) : Gives 169 #[.agg r.vals] w (ruleE r) := by
 have hb0 := Bn w (.cells r.vals 88)
 have hn0 := Hn w (.cells r.vals 88)
 have HH : Hid (RuleL w r ∧ Tab w ∧ RuleZ r) := ⟨hl, ht, hz⟩
 have HN0 : Hid ((w.alloc (.cells r.vals 88)).heap[w§]? = some (.cells r.vals 88 (0, 0))) := hn0
 have HB0 : Hid (Below w§ w (w.alloc (.cells r.vals 88))) := hb0
 obtain ⟨E, eE⟩ : ∃ E, ruleE r = E := ⟨_, rfl⟩
 have HE : Hid (ruleE r = E) := eE
 rw [eE]
 unfold ruleE at HE
 clear eE
 have c1 := (needExpr_any r.m (w.alloc (.cells r.vals 88)) (hl.1.on hb0) hz.1 (ht.on hb0)).two
 clear hl ht hz hb0 hn0
 unfold Gives
 rcases c1 with ⟨h1, c1⟩ | ⟨h1, c1⟩
 ·go_enter Tryz.func169, Tryz.ntmps169
  go_wp2_with (refine wpList_load_mid rfl 28 (.tmp 4) rfl w§ 0 rfl r.m.vals.toList _ (nd_rng HN0.out 0 r.m (rule_m r)) Tryz.underlying28 rfl (size38 r.m) ?_; rw [toArr])
  refine c1.mono ?_
  rintro e w1 ⟨rfl, hb⟩
  have HB1 : Hid (Below w§ w w1) := below2 HB0.out hb
  have hn1 := (hb.block _ (Array.getElem?_eq_some_iff.1 HN0.out).1).trans HN0.out
  have HN1 : Hid (w1.heap[w§]? = some (.cells r.vals 88 (0, 0))) := hn1
  obtain ⟨n, en⟩ : ∃ n, r.ds.length = n := ⟨_, rfl⟩
  have q8 : w1.cell? ⟨w§, 8, none⟩ = some (.slice r.a n r.c) := by rw [← en]; exact Co hn1 8
  have HNL : Hid (r.ds.length = n) := en
  have c2 := (cnt_gives n 1 8 w1).two
  rw [en] at HE
  clear c1 hb hn1 HN0 HB0 en
  rcases c2 with ⟨h2, c2⟩ | ⟨h2, c2⟩
  ·go_wp2_with fail
   refine c2.mono ?_
   rintro e w2 ⟨rfl, hb⟩
   have HBS : Hid (Below w§ w w2) := below2 HB1.out hb
   have hn2 := (hb.block _ (Array.getElem?_eq_some_iff.1 HN1.out).1).trans HN1.out
   have q9 : w2.cell? ⟨w§, 8, none⟩ = some (.slice r.a n r.c) := by rw [← HNL.out]; exact Co hn2 8
   have HSL : Hid (SlAt w 36 r.a r.c (r.ds.map DoM.vals)) := HH.out.1.2.1
   obtain ⟨ds, eds⟩ : ∃ ds, r.ds = ds := ⟨_, rfl⟩
   have HDS : Hid (∀ d ∈ ds, DoL w d ∧ DoZ d) := fun d hd => by rw [← eds] at hd; exact ⟨HH.out.1.2.2.1 d hd, HH.out.2.2.2 d hd⟩
   rw [eds] at HSL HNL HE
   obtain ⟨ra, era⟩ : ∃ q, r.a = q := ⟨_, rfl⟩
   rw [era] at HSL q8 q9
   clear c2 hb hn2 q8 HN1 HB1 eds era
   go_wp2_with fail
   obtain rfl := HNL.out
   go_loopw [14] (fun t wr => ∃ i : Nat, i ≤ ds.length ∧ t = zI i ∧ Below w§ w wr ∧ Hid (fsL (ds.map doE) = fsL ((ds.drop i).map doE))) (fun t _ => ds.length - (intOf t).toNat)
   case atStart => exact ⟨0, by omega, rfl, HBS.out, rfl⟩
   case round =>
    obtain ⟨i, hi, rfl, hbr, HR⟩ := hrel
    have HBR : Hid (Below w§ w wr) := hbr
    clear hbr
    by_cases hlt : i < ds.length
    ·have hlt' : (i : Int) < (ds.length : Int) := by omega
     have hmx : (i : Int) + 1 ≤ 9223372036854775807 := by have h1 := HSL.out.1; have h2 := HSL.out.2.1; rw [List.length_map] at h1; omega
     obtain ⟨b, o, ea, hat⟩ := (HSL.out.on (mapz DoM.sz _) HBR.out).2.2 i (by rw [List.length_map]; exact hlt)
     simp only [List.getElem_map] at hat
     have HMEM : Hid (ds[i] ∈ ds) := List.getElem_mem hlt
     have HD : Hid (fsL (ds.map doE) = fs (doE ds[i]) (fsL ((ds.drop (i + 1)).map doE))) := by show _ = _; rw [HR.out, List.drop_eq_getElem_cons hlt]; rfl
     obtain ⟨d, ed⟩ : ∃ d, ds[i] = d := ⟨_, rfl⟩
     rw [ed] at hat HD HMEM
     have HRG : Hid (wr.rangeAt b (o + i * 36) d.vals.toList) := fun j v hv => by
      have hj : j < 36 := (List.getElem?_eq_some_iff.1 hv).1
      rw [hat j hj, ← hv]; simp
     have HZ : Hid ((wr.alloc (.cells #[zU 0, zU 0, .string ⟨#[]⟩, zU 0, zU 0, zU 0, zI 0, zU 0, .string ⟨#[]⟩, .slice none 0 0, zI 0, zU 0, zU 0, zU 0, zI 0, zU 0, .string ⟨#[]⟩, .slice none 0 0, zI 0, zU 0, zU 0, zU 0, zI 0, zU 0, .string ⟨#[]⟩, .slice none 0 0, zI 0, zU 0, zU 0, zU 0, zI 0, zU 0, .string ⟨#[]⟩, .slice none 0 0, zI 0, zI 0] 92)).heap[wr§]? = some (.cells #[zU 0, zU 0, .string ⟨#[]⟩, zU 0, zU 0, zU 0, zI 0, zU 0, .string ⟨#[]⟩, .slice none 0 0, zI 0, zU 0, zU 0, zU 0, zI 0, zU 0, .string ⟨#[]⟩, .slice none 0 0, zI 0, zU 0, zU 0, zU 0, zI 0, zU 0, .string ⟨#[]⟩, .slice none 0 0, zI 0, zU 0, zU 0, zU 0, zI 0, zU 0, .string ⟨#[]⟩, .slice none 0 0, zI 0, zI 0] 92 (0, 0))) := Hn _ _
     have hbx : Below wr§ wr ((wr.alloc (.cells #[zU 0, zU 0, .string ⟨#[]⟩, zU 0, zU 0, zU 0, zI 0, zU 0, .string ⟨#[]⟩, .slice none 0 0, zI 0, zU 0, zU 0, zU 0, zI 0, zU 0, .string ⟨#[]⟩, .slice none 0 0, zI 0, zU 0, zU 0, zU 0, zI 0, zU 0, .string ⟨#[]⟩, .slice none 0 0, zI 0, zU 0, zU 0, zU 0, zI 0, zU 0, .string ⟨#[]⟩, .slice none 0 0, zI 0, zI 0] 92)).setRow wr§ d.vals) := below_row (Bn _ _) (Nat.le_refl _) _
     have HBX : Hid (Below w§ w ((wr.alloc (.cells #[zU 0, zU 0, .string ⟨#[]⟩, zU 0, zU 0, zU 0, zI 0, zU 0, .string ⟨#[]⟩, .slice none 0 0, zI 0, zU 0, zU 0, zU 0, zI 0, zU 0, .string ⟨#[]⟩, .slice none 0 0, zI 0, zU 0, zU 0, zU 0, zI 0, zU 0, .string ⟨#[]⟩, .slice none 0 0, zI 0, zU 0, zU 0, zU 0, zI 0, zU 0, .string ⟨#[]⟩, .slice none 0 0, zI 0, zI 0] 92)).setRow wr§ d.vals)) := below2 HBR.out hbx
     have HNX : Hid (((wr.alloc (.cells #[zU 0, zU 0, .string ⟨#[]⟩, zU 0, zU 0, zU 0, zI 0, zU 0, .string ⟨#[]⟩, .slice none 0 0, zI 0, zU 0, zU 0, zU 0, zI 0, zU 0, .string ⟨#[]⟩, .slice none 0 0, zI 0, zU 0, zU 0, zU 0, zI 0, zU 0, .string ⟨#[]⟩, .slice none 0 0, zI 0, zU 0, zU 0, zU 0, zI 0, zU 0, .string ⟨#[]⟩, .slice none 0 0, zI 0, zI 0] 92)).setRow wr§ d.vals).heap[wr§]? = some (.cells d.vals 92 (0, 0))) := setRow_heap _ _ _ _ _ _ HZ.out
     obtain ⟨A, eA⟩ : ∃ A, ra = A := ⟨_, rfl⟩
     rw [eA] at ea ⊢
     subst ea
     clear hat ed hbx HR
     go_upto_region 6 with (first | (refine wpList_load_mid rfl 92 (.tmp 16) rfl b (o + i * 36) rfl d.vals.toList _ HRG.out Tryz.underlying92 rfl (by show _ = some 36; exact size110') ?_; rw [Array.toArray_toList]) | (refine wpList_store_row rfl 92 (.tmp 3) (.tmp 17) rfl wr§ d.vals rfl rfl 92 #[zU 0, zU 0, .string ⟨#[]⟩, zU 0, zU 0, zU 0, zI 0, zU 0, .string ⟨#[]⟩, .slice none 0 0, zI 0, zU 0, zU 0, zU 0, zI 0, zU 0, .string ⟨#[]⟩, .slice none 0 0, zI 0, zU 0, zU 0, zU 0, zI 0, zU 0, .string ⟨#[]⟩, .slice none 0 0, zI 0, zU 0, zU 0, zU 0, zI 0, zU 0, .string ⟨#[]⟩, .slice none 0 0, zI 0, zI 0] HZ.out size110' rfl (all36 ..) ?_))
     generalize hWX : World.setRow _ _ _ = WX
     rw [hWX] at HBX HNX
     clear hWX HZ HRG
     have cD := (do_gives d WX ((HDS.out d HMEM.out).1.on HBX.out) (HDS.out d HMEM.out).2 (HH.out.2.1.on HBX.out)).two
     rcases cD with ⟨hd0, cD⟩ | ⟨hd0, cD⟩
     ·go_wp2_with (refine wpList_load_row rfl 92 (.tmp 3) rfl wr§ rfl 92 d.vals (0, 0) _ HNX.out Tryz.underlying92 rfl size110' ?_)
      refine cD.mono ?_
      rintro e w5 ⟨rfl, hb5⟩
      have HB5 : Hid (Below w§ w w5) := below2 HBX.out hb5
      clear cD hb5
      go_wp2_with fail
      exact ⟨⟨i + 1, hlt, rfl, HB5.out, by show _ = _; rw [HD.out, fs_z hd0]⟩, by simp only [intOf]; omega⟩
     ·go_wp2_with (refine wpList_load_row rfl 92 (.tmp 3) rfl wr§ rfl 92 d.vals (0, 0) _ HNX.out Tryz.underlying92 rfl size110' ?_)
      refine cD.mono ?_
      rintro e w5 ⟨rfl, hb5⟩
      have hE : E = doE d := by rw [← HE.out, fs3_z h1 h2, HD.out, fs_n hd0]
      exact ⟨rfl, .inr ⟨by rw [hE]; exact hd0, by rw [hE]⟩, below2 HBX.out hb5⟩
    ·obtain rfl : i = ds.length := by omega
     have hnot : ¬ (ds.length : Int) < (ds.length : Int) := by omega
     have HZERO : Hid (fsL (ds.map doE) = 0) := by show _ = _; rw [HR.out, List.drop_length]; rfl
     clear HR
     go_wp2_with fail
     go_end0
     exact ⟨.inl ⟨by rw [← HE.out, fs3_z h1 h2]; exact HZERO.out, rfl⟩, HBR.out⟩
  ·go_wp2_with fail
   refine c2.mono ?_
   rintro e w2 ⟨rfl, hb⟩
   have hE : E = cntE n 1 8 := by rw [← HE.out, fs3_n h1 h2]
   exact ⟨rfl, .inr ⟨by rw [hE]; exact h2, by rw [hE]⟩, below2 HB1.out hb⟩
 ·go_enter Tryz.func169, Tryz.ntmps169
  go_wp2_with (refine wpList_load_mid rfl 28 (.tmp 4) rfl w§ 0 rfl r.m.vals.toList _ (nd_rng HN0.out 0 r.m (rule_m r)) Tryz.underlying28 rfl (size38 r.m) ?_; rw [toArr])
  refine c1.mono ?_
  rintro e w1 ⟨rfl, hb⟩
  have hE : E = cE r.m := by rw [← HE.out, fs_n h1]
  exact ⟨rfl, .inr ⟨by rw [hE]; exact h1, by rw [hE]⟩, below2 HB0.out hb⟩
end Go.Proofs.YtjimaceccllnlaaGreatDoor
