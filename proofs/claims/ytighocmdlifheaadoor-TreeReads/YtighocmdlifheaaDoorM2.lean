import Derived.Test.YtighocmdlifheaaDoorM0
import Derived.Test.YtighocmdlifheaaDoorM1
/-
  The walk of lex.word.
-/
namespace Go.Proofs.YtighocmdlifheaaDoor
open Go.RowKit

/-- What is told of what is no token: its place alone. -/
def tkP (a : Nat) : Tk := ⟨0, ⟨#[]⟩, 0, 0, a⟩
/-- The program's word or name at a place. -/
def pnT (s : ByteArray) (a : Nat) : Tk := if nmE s a = 0 then nmT s a else tkP a
set_option maxRecDepth 100000 in
set_option maxHeartbeats 2000000 in
theorem wordp_any (s : ByteArray) (a : Nat) (hs : s.size ≤ 140737488355328) (ha : a ≤ s.size) (w : World) (ht : Tab w) :
    Calls Tryd.prog 83 #[.string s, .int .i64 a] w fun e w' => e = .returned (.tuple #[.agg (tkA (pnT s a)), .int .i64 (nmE s a)]) ∧ Below w.heap.size w w' := by
  obtain ⟨d, hd⟩ : ∃ d, a + lead goB (rest s a) = d := ⟨_, rfl⟩
  have hd1 : a ≤ d := by omega
  have hd2 : d ≤ s.size := by have := lead_le goB (rest s a); rw [rest_len] at this; omega
  have HT : Hid (nmT s a = if d - a > 16 then tk0 else ⟨if isW (s.extract a d) = true then 1 else 2, s.extract a d, 0, 0, a⟩) := by show _ = _; unfold nmT; rw [hd, show lead goB (rest s a) = d - a by omega]
  have HE : Hid (nmE s a = if d - a > 16 then 112 else 0) := by show _ = _; unfold nmE; rw [show lead goB (rest s a) = d - a by omega]
  have HD : Hid (d = a + lead goB (rest s a)) := hd.symm
  have hS0 : (w.alloc (.cells #[.string s] 9)).heap[w.heap.size]? = some (.cells #[.string s] 9 (0, 0)) := heap_new w _
  have hB0 := below_two w (.cells #[.string s] 9) (.cells (tkA tk0) 160)
  have hR0 : TkH ((w.alloc (.cells #[.string s] 9)).alloc (.cells (tkA tk0) 160)) (w.heap.size + 1) tk0 := by rw [← size_alloc w (.cells #[.string s] 9)]; exact heap_new _ _
  have hS1 : ((w.alloc (.cells #[.string s] 9)).alloc (.cells (tkA tk0) 160)).heap[w.heap.size]? = some (.cells #[.string s] 9 (0, 0)) := heap_old hS0 (by rw [size_alloc]; omega)
  have hz0 : ((w.alloc (.cells #[.string s] 9)).alloc (.cells (tkA tk0) 160)).heap.size = w.heap.size + 2 := by rw [size_alloc, size_alloc]
  have hT0 := ht.on hB0
  obtain ⟨W, eW⟩ : ∃ W, (w.alloc (.cells #[.string s] 9)).alloc (.cells (tkA tk0) 160) = W := ⟨_, rfl⟩
  rw [eW] at hB0 hR0 hS1 hz0 hT0
  have hc := cell_of hS1 0
  have HRR := hR0.hid
  have HTab := hT0.hid
  have HB : Hid (Below w.heap.size w W) := hB0
  have cR := reachW_any s a w.heap.size hs ha W hc d HD
  unfold tkA tk0 at eW
  dsimp only at eW
  clear hd ht hS0 hS1 hT0 hR0 hB0 HD
  go_enter Tryd.func83, Tryd.ntmps83
  go_wp2_with fail
  clear eW
  refine cR.mono ?_
  rintro _ v ⟨rfl, e⟩
  obtain rfl := e.symm
  clear cR
  by_cases h16 : d - a > 16
  · have h16' : (16 : Int) < (d : Int) - (a : Int) := by omega
    have KE : Hid (nmE s a = 112) := by show _ = _; rw [HE.out, if_pos h16]
    have KT : Hid (pnT s a = tkP a) := by show _ = _; unfold pnT; rw [KE.out, if_neg (by decide)]
    obtain ⟨r0, r1, r2, r3, r4⟩ := HRR.out.cells
    obtain ⟨f0, f1, f2, f3, f4⟩ := HRR.out.froz
    clear HT HE
    go_wp2_with fail
    exact bodyPost_ret (results_two (p := 4) (u := 5) (ty := 160) rfl _ _ (w.heap.size + 1) 160 (tkA (tkP a)) (0, 0) _ rfl (HRR.out.put (tkP a)) Tryd.underlying160 rfl (by kernel_rfl)) rfl ⟨by rw [KT.out, KE.out]; rfl, below_put HB.out (by omega) _ _ _ _ _⟩
  · have h16' : ¬ (16 : Int) < (d : Int) - (a : Int) := by omega
    have KE : Hid (nmE s a = 0) := by show _ = _; rw [HE.out, if_neg h16]
    obtain ⟨x, ex⟩ : ∃ x, s.extract a d = x := ⟨_, rfl⟩
    have KT : Hid (pnT s a = ⟨if isW x = true then 1 else 2, x, 0, 0, a⟩) := by show _ = _; unfold pnT; rw [KE.out, if_pos rfl, HT.out, if_neg h16, ex]
    have hY : TkH (W.alloc (.cells (tkA ⟨2, x, 0, 0, a⟩) 160)) W.heap.size ⟨2, x, 0, 0, a⟩ := heap_new W _
    rw [hz0] at hY
    have hR : TkH (W.alloc (.cells (tkA ⟨2, x, 0, 0, a⟩) 160)) (w.heap.size + 1) tk0 := heap_old HRR.out HRR.out.lt
    have hB2 := HB.out.alloc HB.out.size (.cells (tkA ⟨2, x, 0, 0, a⟩) 160)
    have hT2 := HTab.out.on (below_new W (.cells (tkA ⟨2, x, 0, 0, a⟩) 160))
    obtain ⟨V, eV⟩ : ∃ V, W.alloc (.cells (tkA ⟨2, x, 0, 0, a⟩) 160) = V := ⟨_, rfl⟩
    rw [eV] at hY hR hB2 hT2
    have HY := hY.hid
    have HR2 := hR.hid
    have HB2 : Hid (Below w.heap.size w V) := hB2
    have cW := wordP_any x V hT2
    unfold tkA at eV
    dsimp only at eV
    clear HT HE hY hR hB2 hT2
    obtain ⟨z0, z1, z2, z3, z4⟩ := HY.out.cells
    go_wp2_with fail
    clear eV
    refine cW.mono ?_
    rintro _ v ⟨rfl, e⟩
    obtain rfl := e.symm
    clear cW
    cases hw : isW x
    · have KT2 : Hid (pnT s a = ⟨2, x, 0, 0, a⟩) := by show _ = _; rw [KT.out, hw]; rfl
      obtain ⟨r0, r1, r2, r3, r4⟩ := HR2.out.cells
      obtain ⟨f0, f1, f2, f3, f4⟩ := HR2.out.froz
      clear KT
      go_wp2_with fail
      exact bodyPost_ret (results_two (p := 4) (u := 5) (ty := 160) rfl _ _ (w.heap.size + 1) 160 (tkA ⟨2, x, 0, 0, a⟩) (0, 0) _ rfl (HR2.out.put ⟨2, x, 0, 0, a⟩) Tryd.underlying160 rfl (by kernel_rfl)) rfl ⟨by rw [KT2.out, KE.out]; rfl, below_put HB2.out (by omega) _ _ _ _ _⟩
    · have KT2 : Hid (pnT s a = ⟨1, x, 0, 0, a⟩) := by show _ = _; rw [KT.out, hw]; rfl
      obtain ⟨U, eU⟩ : ∃ U, V.setCell ⟨w.heap.size + 2, 0, none⟩ (.int .u8 1) = U := ⟨_, rfl⟩
      have HY3 : Hid (TkH U (w.heap.size + 2) ⟨1, x, 0, 0, a⟩) := by show TkH U _ _; rw [← eU]; exact heap_set _ HY.out
      have HR3 : Hid (TkH U (w.heap.size + 1) tk0) := by show TkH U _ _; rw [← eU]; exact (Below.heap_setCell _ _ _ _ (by simp)).trans HR2.out
      have hB4 : Below w.heap.size w U := by rw [← eU]; exact HB2.out.setCell (p := ⟨w.heap.size + 2, 0, none⟩) (by simp) _
      obtain ⟨g0, g1, g2, g3, g4⟩ := HY.out.froz
      obtain ⟨y0, y1, y2, y3, y4⟩ := HY3.out.cells
      obtain ⟨r0, r1, r2, r3, r4⟩ := HR3.out.cells
      obtain ⟨f0, f1, f2, f3, f4⟩ := HR3.out.froz
      clear KT
      go_wp2_with fail
      exact bodyPost_ret (results_two (p := 4) (u := 5) (ty := 160) rfl _ _ (w.heap.size + 1) 160 (tkA ⟨1, x, 0, 0, a⟩) (0, 0) _ rfl (HR3.out.put ⟨1, x, 0, 0, a⟩) Tryd.underlying160 rfl (by kernel_rfl)) rfl ⟨by rw [KT2.out, KE.out]; rfl, below_put hB4 (by omega) _ _ _ _ _⟩
end Go.Proofs.YtighocmdlifheaaDoor

/-
  Plain: what a token is, by the bytes from its place on alone; it hangs on nothing behind a byte that ends it.
-/
namespace Go.Proofs.YtighocmdlifheaaDoor

def mB (l : List UInt8) (i : Nat) : Bool := decide ((mk i).size ≤ l.length) && (l.take (mk i).size == (mk i).data.toList)
def mO (l : List UInt8) : Option Nat := (List.range 23).find? (mB l)
def nE (l : List UInt8) (d : Nat) : Nat := if nbTy (l.drop d) = 1 then d else d + 1
/-- Kind, bytes, type, number; nothing, if it is none. -/
def lx (l : List UInt8) : Option (Int × Nat × Int × Int) :=
  if hdB letB l = true then (if lead goB l > 16 then none else some (if isW ⟨(l.take (lead goB l)).toArray⟩ = true then 1 else 2, lead goB l, 0, 0))
  else if hdB digB l = true then
    (match nmS l 0 0 with
    | none => none
    | some (n, d) => if n > 9223372036854775807 ∨ (d > 1 ∧ hd0 l = true) then none
      else if badH (l.drop (nE l d)) = true then none else some (3, nE l d, nbTy (l.drop d), n))
  else (match mO l with | none => none | some i => some (4, (mk i).size, 0, 0))
def lxE (l : List UInt8) : Int := if (lx l).isSome = true then 0 else if hdB letB l = true then 112 else if hdB digB l = true then 113 else 111
def tkOf (l : List UInt8) (d : Nat) : Tk := match lx l with | some (k, n, ty, v) => ⟨k, ⟨(l.take n).toArray⟩, ty, v, d⟩ | none => tk0
theorem ext_list (s : ByteArray) (a n : Nat) : (s.extract a (a + n)).data.toList = (rest s a).take n := by
  unfold rest
  rw [ByteArray.data_extract, Array.toList_extract]
  simp [List.extract_eq_take_drop]
theorem ext_eq (s : ByteArray) (a n : Nat) : s.extract a (a + n) = ⟨((rest s a).take n).toArray⟩ := str_eq (by rw [ext_list])
theorem rest_drop (s : ByteArray) (a n : Nat) : (rest s a).drop n = rest s (a + n) := by unfold rest; rw [List.drop_drop]
theorem mB_mkB (s : ByteArray) (a : Nat) (ha : a ≤ s.size) (i : Nat) : mB (rest s a) i = mkB s a i := by
  unfold mB mkB
  rw [ext_list, rest_len]
  congr 1
  by_cases h : (mk i).size ≤ s.size - a
  · rw [decide_eq_true h, decide_eq_true (by omega)]
  · rw [decide_eq_false h, decide_eq_false (by omega)]
theorem mO_mkO (s : ByteArray) (a : Nat) (ha : a ≤ s.size) : mO (rest s a) = mkO s a := by
  unfold mO mkO
  congr 1
  funext i
  exact mB_mkB s a ha i
theorem mO_take {l : List UInt8} {i : Nat} (h : mO l = some i) : i < 23 ∧ l.take (mk i).size = (mk i).data.toList ∧ (mk i).size ≤ l.length := by
  unfold mO at h
  rw [List.find?_range_eq_some] at h
  obtain ⟨h1, h2, _⟩ := h
  unfold mB at h1
  rw [Bool.and_eq_true] at h1
  exact ⟨by simpa using h2, by simpa using h1.2, of_decide_eq_true h1.1⟩
/-- What stands at a place, by the bytes from there on. -/
theorem one_lx (s : ByteArray) (f : Nat) (hf : f ≤ s.size) (h : oneP s f ≠ s.size) :
    oneT s f = tkOf (rest s (oneP s f)) (oneP s f) ∧ oneE s f = lxE (rest s (oneP s f)) := by
  have hP := oneP_le s f hf
  unfold oneT oneE
  generalize oneP s f = d at *
  rw [if_neg h, if_neg h]
  unfold tkOf lxE lx
  by_cases hl : hdB letB (rest s d) = true
  · rw [if_pos hl, if_pos hl, if_pos hl, if_pos hl]
    unfold nmT nmE
    by_cases hk : lead goB (rest s d) > 16
    · rw [if_pos hk, if_pos hk, if_pos hk]; exact ⟨rfl, rfl⟩
    · rw [if_neg hk, if_neg hk, if_neg hk, ext_eq]; exact ⟨rfl, rfl⟩
  rw [if_neg hl, if_neg hl, if_neg hl, if_neg hl]
  by_cases hg : hdB digB (rest s d) = true
  · rw [if_pos hg, if_pos hg, if_pos hg, if_pos hg]
    unfold nbT nbE nbO
    cases hm : nmS (rest s d) 0 0 with
    | none => exact ⟨rfl, rfl⟩
    | some q =>
      obtain ⟨n, k⟩ := q
      have e1 : (if nbTy (rest s (d + k)) = 1 then d + k else d + k + 1) = d + nE (rest s d) k := by
        unfold nE
        rw [rest_drop]
        split <;> rfl
      simp only [e1, rest_drop]
      by_cases c1 : n > 9223372036854775807 ∨ (k > 1 ∧ hd0 (rest s d) = true)
      · simp [if_pos c1]
      · simp only [if_neg c1]
        by_cases c2 : badH (rest s (d + nE (rest s d) k)) = true
        · simp [if_pos c2]
        · simp [if_neg c2, ext_eq]
  rw [if_neg hg, if_neg hg, if_neg hg, if_neg hg]
  unfold mkT mkE
  rw [mO_mkO s d hP]
  cases hm : mkO s d with
  | none => exact ⟨rfl, rfl⟩
  | some i =>
    have := (mO_take (by rw [mO_mkO s d hP]; exact hm : mO (rest s d) = some i)).2.1
    refine ⟨?_, rfl⟩
    show (⟨4, mk i, 0, 0, d⟩ : Tk) = ⟨4, ⟨(List.take (mk i).size (rest s d)).toArray⟩, 0, 0, d⟩
    rw [this]

/-- A byte that ends whatever stands ahead of it. -/
def stopB (c : UInt8) : Bool := decide (c.toNat = 32) || decide (c.toNat = 9) || decide (c.toNat = 10) || decide (c.toNat = 13) || decide (c.toNat = 35)
theorem stop_of {c : UInt8} (h : stopB c = true) : c.toNat = 32 ∨ c.toNat = 9 ∨ c.toNat = 10 ∨ c.toNat = 13 ∨ c.toNat = 35 := by
  unfold stopB at h
  simpa [or_assoc] using h
theorem stop_go {c : UInt8} (h : stopB c = true) : goB c = false ∧ upB c = false ∧ digB c = false ∧ letB c = false := by
  have := stop_of h
  have a1 : letB c = false := by unfold letB; exact decide_eq_false (by omega)
  have a2 : digB c = false := by unfold digB; exact decide_eq_false (by omega)
  refine ⟨?_, ?_, a2, a1⟩
  · unfold goB; rw [a1, a2, decide_eq_false (by omega)]; rfl
  · unfold upB; exact decide_eq_false (by omega)
theorem lead_app {p : UInt8 → Bool} {c : UInt8} (h : p c = false) (m : List UInt8) : ∀ l : List UInt8, lead p (l ++ c :: m) = lead p l
  | [] => by simp [lead, h]
  | x :: l => by
    have := lead_app h m l
    simp only [List.cons_append, lead, this]
theorem nmS_app {c : UInt8} (h : digB c = false) (m : List UInt8) : ∀ (l : List UInt8) (n k : Nat), nmS (l ++ c :: m) n k = nmS l n k
  | [], n, k => by simp [nmS, h]
  | x :: l, n, k => by
    have := nmS_app h m l
    simp only [List.cons_append, nmS, this]
theorem hdB_app {p : UInt8 → Bool} {c : UInt8} (m : List UInt8) : ∀ l : List UInt8, l ≠ [] → hdB p (l ++ c :: m) = hdB p l
  | [], h => absurd rfl h
  | _ :: _, _ => rfl
theorem hd0_app {c : UInt8} (m : List UInt8) : ∀ l : List UInt8, l ≠ [] → hd0 (l ++ c :: m) = hd0 l
  | [], h => absurd rfl h
  | _ :: _, _ => rfl
theorem nbTy_stop {c : UInt8} (h : stopB c = true) (m : List UInt8) : ∀ l : List UInt8, nbTy (l ++ c :: m) = nbTy l
  | [] => by
    have := stop_of h
    show (if c.toNat = 113 then (2 : Int) else if c.toNat = 112 then 3 else if c.toNat = 116 then 4 else 1) = 1
    rw [if_neg (by omega), if_neg (by omega), if_neg (by omega)]
  | _ :: _ => rfl
theorem badH_stop {c : UInt8} (h : stopB c = true) (m : List UInt8) : ∀ l : List UInt8, badH (l ++ c :: m) = badH l
  | [] => by
    have := stop_go h
    show (goB c || upB c) = false
    rw [this.1, this.2.1]; rfl
  | _ :: _ => rfl
theorem mB_stop {c : UInt8} (h : stopB c = true) (m : List UInt8) {l : List UInt8} (hl : l ≠ []) {i : Nat} (hi : i < 23) : mB (l ++ c :: m) i = mB l i := by
  unfold mB
  have hs := mk_size i
  by_cases h2 : (mk i).size ≤ l.length
  · rw [decide_eq_true h2, decide_eq_true (by simp; omega), List.take_append_of_le_length h2]
  · rw [decide_eq_false h2]
    have h1 : 0 < l.length := List.length_pos_iff.2 hl
    have e2 : (mk i).size = 2 := by omega
    have e1 : l.length = 1 := by omega
    obtain ⟨x, rfl⟩ : ∃ x, l = [x] := List.length_eq_one_iff.1 e1
    have hk : ∀ y ∈ marksL, y.size = 2 → ∃ a b : UInt8, y.data.toList = [a, b] ∧ stopB b = false := by
      intro y hy hy2
      have h0 : ∀ y ∈ marksL, y.size = 2 → stopB (y.data.toList.getD 1 0) = false := by decide
      have h3 := h0 y hy hy2
      have h4 := len_of y
      rw [hy2] at h4
      obtain ⟨a, b, hab⟩ : ∃ a b, y.data.toList = [a, b] := by
        match y.data.toList, h4 with
        | [a, b], _ => exact ⟨a, b, rfl⟩
      rw [hab] at h3
      exact ⟨a, b, hab, h3⟩
    have hmem : mk i ∈ marksL := by
      have hl : i < marksL.length := hi
      unfold mk
      rw [List.getD_eq_getElem?_getD, List.getElem?_eq_getElem hl]
      exact List.getElem_mem hl
    obtain ⟨a, b, hab, hb⟩ := hk _ hmem e2
    rw [e2, hab]
    have : (List.take 2 ([x] ++ c :: m) == [a, b]) = false := by
      apply beq_false_of_ne
      intro h'
      have : c = b := by simpa using (List.cons.inj (List.cons.inj h').2).1
      rw [this] at h
      rw [h] at hb
      exact absurd hb (by decide)
    rw [this]
    simp
theorem mO_stop {c : UInt8} (h : stopB c = true) (m : List UInt8) {l : List UInt8} (hl : l ≠ []) : mO (l ++ c :: m) = mO l := by
  unfold mO
  have : ∀ L : List Nat, (∀ i ∈ L, i < 23) → L.find? (mB (l ++ c :: m)) = L.find? (mB l) := by
    intro L
    induction L with
    | nil => intro _; rfl
    | cons i L ih =>
      intro hL
      rw [List.find?_cons, List.find?_cons, mB_stop h m hl (hL i (by simp)), ih (fun j hj => hL j (by simp [hj]))]
  exact this _ (fun i hi => by simpa using hi)
theorem nmS_le {l : List UInt8} {n d : Nat} (h : nmS l 0 0 = some (n, d)) : d ≤ l.length := by have := (nmS_len _ _ _ _ _ h).2.1; omega
theorem nE_le {l : List UInt8} {d : Nat} (h : d ≤ l.length) : nE l d ≤ l.length := by
  unfold nE
  by_cases e : nbTy (l.drop d) = 1
  · rw [if_pos e]; exact h
  · rw [if_neg e]
    have : d ≠ l.length := by
      intro hd
      apply e
      rw [List.drop_eq_nil_of_le (by omega)]; rfl
    omega
theorem lx_stop {c : UInt8} (h : stopB c = true) (m : List UInt8) {l : List UInt8} (hl : l ≠ []) : lx (l ++ c :: m) = lx l := by
  obtain ⟨g1, g2, g3, g4⟩ := stop_go h
  unfold lx
  rw [hdB_app m l hl, hdB_app m l hl, lead_app g1, nmS_app g3, mO_stop h m hl, hd0_app m l hl, List.take_append_of_le_length (lead_le goB l)]
  cases hm : nmS l 0 0 with
  | none => rfl
  | some q =>
    obtain ⟨n, d⟩ := q
    have hd := nmS_le hm
    have e1 : nbTy ((l ++ c :: m).drop d) = nbTy (l.drop d) := by rw [List.drop_append_of_le_length hd]; exact nbTy_stop h m _
    have e2 : nE (l ++ c :: m) d = nE l d := by unfold nE; rw [e1]
    have e3 : badH ((l ++ c :: m).drop (nE l d)) = badH (l.drop (nE l d)) := by rw [List.drop_append_of_le_length (nE_le hd)]; exact badH_stop h m _
    simp only [e1, e2, e3]
theorem lxE_stop {c : UInt8} (h : stopB c = true) (m : List UInt8) {l : List UInt8} (hl : l ≠ []) : lxE (l ++ c :: m) = lxE l := by
  unfold lxE
  rw [lx_stop h m hl, hdB_app m l hl, hdB_app m l hl]
theorem lx_len {l : List UInt8} {k : Int} {n : Nat} {ty v : Int} (h : lx l = some (k, n, ty, v)) : 0 < n ∧ n ≤ l.length ∧ k ≠ 0 := by
  unfold lx at h
  by_cases hl : hdB letB l = true
  · rw [if_pos hl] at h
    by_cases hk : lead goB l > 16
    · rw [if_pos hk] at h; exact absurd h (by simp)
    · rw [if_neg hk] at h
      simp only [Option.some.injEq, Prod.mk.injEq] at h
      obtain ⟨e1, rfl, _⟩ := h
      refine ⟨lead_pos (hd_go hl), lead_le goB l, ?_⟩
      rw [← e1]; split <;> decide
  rw [if_neg hl] at h
  by_cases hg : hdB digB l = true
  · rw [if_pos hg] at h
    cases hm : nmS l 0 0 with
    | none => rw [hm] at h; exact absurd h (by simp)
    | some q =>
      obtain ⟨n2, d⟩ := q
      have hd := nmS_le hm
      have h3 := (nmS_len _ _ _ _ _ hm).2.2 hg
      rw [hm] at h
      simp only at h
      split at h
      · exact absurd h (by simp)
      · split at h
        · exact absurd h (by simp)
        · simp only [Option.some.injEq, Prod.mk.injEq] at h
          obtain ⟨e1, rfl, _⟩ := h
          refine ⟨?_, nE_le hd, by rw [← e1]; decide⟩
          unfold nE; split <;> omega
  rw [if_neg hg] at h
  cases hm : mO l with
  | none => rw [hm] at h; exact absurd h (by simp)
  | some i =>
    rw [hm] at h
    simp only [Option.some.injEq, Prod.mk.injEq] at h
    obtain ⟨e1, rfl, _⟩ := h
    have := mO_take hm
    exact ⟨mk_pos i this.1, this.2.2, by rw [← e1]; decide⟩
theorem lead_take {p : UInt8 → Bool} : ∀ l : List UInt8, lead p (l.take (lead p l)) = lead p l
  | [] => rfl
  | x :: l => by
    have := lead_take (p := p) l
    by_cases h : p x = true
    · simp [h, lead, this]
    · simp [h, lead]
theorem hdB_take {p : UInt8 → Bool} {n : Nat} (h : 0 < n) : ∀ l : List UInt8, hdB p (l.take n) = hdB p l
  | [] => by simp
  | x :: l => by obtain ⟨m, rfl⟩ : ∃ m, n = m + 1 := ⟨n - 1, by omega⟩; rfl
theorem hd0_take {n : Nat} (h : 0 < n) : ∀ l : List UInt8, hd0 (l.take n) = hd0 l
  | [] => by simp
  | x :: l => by obtain ⟨m, rfl⟩ : ∃ m, n = m + 1 := ⟨n - 1, by omega⟩; rfl
theorem nmS_take : ∀ (l : List UInt8) (n k n' k' e : Nat), nmS l n k = some (n', k') → k' ≤ k + e → nmS (l.take e) n k = some (n', k')
  | [], n, k, n', k', e, h, he => by simpa using h
  | x :: l, n, k, n', k', e, h, he => by
    have hle := nmS_len _ _ _ _ _ h
    cases e with
    | zero =>
      have : k' = k := by omega
      subst this
      have h3 : ¬ digB x = true := fun h' => by have := hle.2.2 h'; omega
      simp only [nmS, if_neg h3] at h
      simpa [nmS] using h
    | succ e =>
      simp only [List.take_succ_cons, nmS] at h ⊢
      by_cases hg : digB x = true
      · rw [if_pos hg] at h ⊢
        by_cases hn : n > 922337203685477580
        · rw [if_pos hn] at h; exact absurd h (by simp)
        · rw [if_neg hn] at h ⊢
          exact nmS_take l _ _ _ _ e h (by omega)
      · rw [if_neg hg] at h ⊢; exact h
theorem nbTy_take {n : Nat} (h : 0 < n) : ∀ l : List UInt8, nbTy (l.take n) = nbTy l
  | [] => by simp
  | x :: l => by obtain ⟨m, rfl⟩ : ∃ m, n = m + 1 := ⟨n - 1, by omega⟩; rfl
theorem mB_take {l : List UInt8} {n i : Nat} (h : mB (l.take n) i = true) : mB l i = true := by
  unfold mB at h ⊢
  rw [Bool.and_eq_true] at h ⊢
  have h1 := of_decide_eq_true h.1
  have h2 : List.take (mk i).size (List.take n l) = (mk i).data.toList := by simpa using h.2
  have h3 : (mk i).size ≤ n := by simp at h1; omega
  rw [List.take_take, Nat.min_eq_left h3] at h2
  refine ⟨decide_eq_true (by simp at h1; omega), by rw [h2]; simp⟩
/-- What was taken is the same by itself. -/
theorem lx_take {l : List UInt8} {k : Int} {n : Nat} {ty v : Int} (h : lx l = some (k, n, ty, v)) : lx (l.take n) = some (k, n, ty, v) := by
  obtain ⟨hn, hnl, _⟩ := lx_len h
  unfold lx at h ⊢
  rw [hdB_take hn, hdB_take hn]
  by_cases hl : hdB letB l = true
  · rw [if_pos hl] at h ⊢
    by_cases hk : lead goB l > 16
    · rw [if_pos hk] at h; exact absurd h (by simp)
    · rw [if_neg hk] at h
      simp only [Option.some.injEq, Prod.mk.injEq] at h
      obtain ⟨e1, rfl, e2, e3⟩ := h
      rw [lead_take, if_neg hk, List.take_take, Nat.min_self, e1, ← e2, ← e3]
  rw [if_neg hl] at h ⊢
  by_cases hg : hdB digB l = true
  · rw [if_pos hg] at h ⊢
    cases hm : nmS l 0 0 with
    | none => rw [hm] at h; exact absurd h (by simp)
    | some q =>
      obtain ⟨n2, d⟩ := q
      have hd := nmS_le hm
      rw [hm] at h
      simp only at h
      by_cases c1 : n2 > 9223372036854775807 ∨ (d > 1 ∧ hd0 l = true)
      · rw [if_pos c1] at h; exact absurd h (by simp)
      rw [if_neg c1] at h
      by_cases c2 : badH (l.drop (nE l d)) = true
      · rw [if_pos c2] at h; exact absurd h (by simp)
      rw [if_neg c2] at h
      simp only [Option.some.injEq, Prod.mk.injEq] at h
      obtain ⟨e1, e2, e3, e4⟩ := h
      have hdn : d ≤ n := by rw [← e2]; unfold nE; split <;> omega
      rw [nmS_take l 0 0 n2 d n hm (by omega)]
      simp only
      have e5 : nbTy ((l.take n).drop d) = nbTy (l.drop d) := by
        rw [List.drop_take]
        by_cases hz : n - d = 0
        · rw [hz, List.take_zero]
          have : nE l d = d := by omega
          unfold nE at this
          by_cases ht : nbTy (l.drop d) = 1
          · rw [ht]; rfl
          · rw [if_neg ht] at this; omega
        · exact nbTy_take (by omega) _
      have e6 : nE (l.take n) d = n := by unfold nE; rw [e5]; exact e2
      rw [hd0_take hn, if_neg c1, e6, e5, List.drop_eq_nil_of_le (by rw [List.length_take]; omega)]
      rw [if_neg (by decide), e1, e3, e4]
  rw [if_neg hg] at h ⊢
  cases hm : mO l with
  | none => rw [hm] at h; exact absurd h (by simp)
  | some i =>
    have ht := mO_take hm
    rw [hm] at h
    simp only [Option.some.injEq, Prod.mk.injEq] at h
    obtain ⟨e1, e2, e3, e4⟩ := h
    have : mO (l.take n) = some i := by
      unfold mO at hm ⊢
      rw [List.find?_range_eq_some] at hm ⊢
      refine ⟨?_, hm.2.1, fun j hj => ?_⟩
      · unfold mB
        rw [Bool.and_eq_true]
        refine ⟨decide_eq_true (by rw [List.length_take]; omega), ?_⟩
        rw [List.take_take, ← e2, Nat.min_self, ht.2.1]; simp
      · have := hm.2.2 j hj
        cases hb : mB (l.take n) j with
        | false => rfl
        | true => rw [mB_take hb] at this; exact absurd this (by simp)
    rw [this]
    simp only
    rw [e1, e2, ← e3, ← e4]
end Go.Proofs.YtighocmdlifheaaDoor

/-
  The walk of lex.number.
-/
namespace Go.Proofs.YtighocmdlifheaaDoor
open Go.RowKit

/-- The program's number at a place. -/
def pbT (s : ByteArray) (a : Nat) : Tk := if nbE s a = 0 then nbT s a else tkP a
theorem pb_no {s : ByteArray} {a : Nat} (h : nbO s a = none) : Hid (pbT s a = tkP a ∧ nbE s a = 113) := by
  obtain ⟨_, h2⟩ := (nb_no h).out
  exact ⟨by unfold pbT; rw [h2, if_neg (by decide)], h2⟩
theorem pb_yes {s : ByteArray} {a n e : Nat} {ty : Int} (h : nbO s a = some (n, e, ty)) : Hid (pbT s a = ⟨3, s.extract a e, ty, n, a⟩ ∧ nbE s a = 0) := by
  obtain ⟨h1, h2⟩ := (nb_yes h).out
  exact ⟨by unfold pbT; rw [h2, if_pos rfl, h1], h2⟩
def nbM (o : Option Nat) (g bg : Bool) (e : Nat) (ty : Int) : Option (Nat × Nat × Int) := match o with | none => none | some n => if g = true then none else if bg = true then none else some (n, e, ty)
theorem nbM_of {s : ByteArray} {a d e : Nat} (hd : d = a + lead digB (rest s a)) (he : e = if nbTy (rest s d) = 1 then d else d + 1) :
    nbO s a = nbM (wv ((rest s a).take (lead digB (rest s a))) 0) (decide (d - a > 1) && hd0 (rest s a)) (badH (rest s e)) e (nbTy (rest s d)) := by
  rw [nbO_parts s a d e hd he]
  unfold nbM
  cases wv ((rest s a).take (lead digB (rest s a))) 0 with
  | none => rfl
  | some n =>
    simp only
    by_cases h : d - a > 1 ∧ hd0 (rest s a) = true
    · rw [if_pos h, if_pos (by rw [decide_eq_true h.1, h.2]; rfl)]
    · have h2 : (decide (d - a > 1) && hd0 (rest s a)) = false := by
        by_cases h1 : d - a > 1
        · rw [decide_eq_true h1, Bool.true_and]
          cases hh : hd0 (rest s a)
          · rfl
          · exact absurd ⟨h1, hh⟩ h
        · rw [decide_eq_false h1]; rfl
      rw [if_neg h, h2]; rfl
/-- The world of a call that boxes its text and its token. -/
theorem box_two (s : ByteArray) (w : World) : ∃ W, (w.alloc (.cells #[.string s] 9)).alloc (.cells #[.int .u8 0, .string ⟨#[]⟩, .int .u8 0, .int .i64 0, .int .i64 0] 160) = W ∧
    Hid (TkH W (w.heap.size + 1) tk0) ∧ W.cell? ⟨w.heap.size, 0, none⟩ = some (.string s) ∧ Hid (Below w.heap.size w W) ∧ W.heap.size = w.heap.size + 2 := by
  refine ⟨_, rfl, ?_, ?_, below_two w _ _, by rw [size_alloc, size_alloc]⟩
  · show TkH _ _ _
    have := heap_new (w.alloc (.cells #[.string s] 9)) (.cells (tkA tk0) 160)
    rw [size_alloc] at this
    exact this
  · exact cell_of (heap_old (heap_new w (.cells #[.string s] 9)) (by rw [size_alloc]; omega)) 0
set_option maxRecDepth 100000 in
set_option maxHeartbeats 2000000 in
theorem numberp_any (s : ByteArray) (a : Nat) (hs : s.size ≤ 140737488355328) (ha : a < s.size) (hdg : hdB digB (rest s a) = true) (w : World) :
    Calls Tryd.prog 85 #[.string s, .int .i64 a] w fun e w' => e = .returned (.tuple #[.agg (tkA (pbT s a)), .int .i64 (nbE s a)]) ∧ Below w.heap.size w w' := by
  obtain ⟨d, hd⟩ : ∃ d, d = a + lead digB (rest s a) := ⟨_, rfl⟩
  obtain ⟨e, he⟩ : ∃ e, e = if nbTy (rest s d) = 1 then d else d + 1 := ⟨_, rfl⟩
  have hp0 := lead_pos hdg
  have hd1 : a ≤ d := by omega
  have hd2 : d ≤ s.size := by have := lead_le digB (rest s a); rw [rest_len] at this; omega
  have he1 : a ≤ e := by rw [he]; split <;> omega
  have he2 : e ≤ s.size := by
    rw [he]
    by_cases h : nbTy (rest s d) = 1
    · rw [if_pos h]; exact hd2
    · rw [if_neg h]; exact nbTy_nil h
  obtain ⟨x, ex⟩ : ∃ x, s.extract a d = x := ⟨_, rfl⟩
  have hxl : x.data.toList = (rest s a).take (lead digB (rest s a)) := by rw [← ex, hd]; exact ext_list _ _ _
  have hx0 : rest x 0 = (rest s a).take (lead digB (rest s a)) := by rw [← hxl]; unfold rest; simp
  have hxs : x.size = d - a := by rw [← ex]; exact ext_size s a d hd2
  have hx00 : hd0 (rest x 0) = hd0 (rest s a) := by rw [hx0]; exact hd0_take hp0 _
  have hO := nbM_of hd he
  rw [← hx0, ← hx00] at hO
  have cT := typed_any s d hs hd2
  rw [← he] at cT
  have cW := worth_any x (by omega) (fun c hc => by rw [hx0] at hc; exact lead_all _ c hc)
  have cP := isPadded_any x (by omega)
  have cG := isGlued_any s e he2
  obtain ⟨W, eW, HR, hc, HB, hz⟩ := box_two s w
  have cR := reachN_any s a w.heap.size hs (Nat.le_of_lt ha) W hc d hd
  obtain ⟨o, ho⟩ : ∃ o, wv (rest x 0) 0 = o := ⟨_, rfl⟩
  rw [ho] at hO cW
  obtain ⟨ty, hty⟩ : ∃ ty, nbTy (rest s d) = ty := ⟨_, rfl⟩
  rw [hty] at hO cT
  rw [hxs] at cP
  obtain ⟨bp, hbp⟩ : ∃ bp, (decide (d - a > 1) && hd0 (rest x 0)) = bp := ⟨_, rfl⟩
  rw [hbp] at hO cP
  obtain ⟨bg, hbg⟩ : ∃ bg, badH (rest s e) = bg := ⟨_, rfl⟩
  rw [hbg] at hO cG
  have HO : Hid (nbO s a = nbM o bp bg e ty) := hO
  obtain ⟨r0, r1, r2, r3, r4⟩ := HR.out.cells
  obtain ⟨f0, f1, f2, f3, f4⟩ := HR.out.froz
  clear hO hd he hp0 hxl hx0 hx00 ho hty hbp hbg hdg
  cases o with
  | none =>
    have K := pb_no HO.out
    simp only [Option.isSome, wvN] at cW
    clear HO
    go_enter Tryd.func85, Tryd.ntmps85
    go_wp2_with (first | (go_at_call 91; refine cR.mono ?_; rintro _ v ⟨rfl, q⟩; obtain rfl := q.symm) | (go_at_call 95; refine (cT _).mono ?_; rintro _ v ⟨rfl, q⟩; obtain rfl := q.symm) | (go_at_call 96; refine (cW _).mono ?_; rintro _ v ⟨rfl, q⟩; obtain rfl := q.symm) | (go_at_call 97; refine (cP _).mono ?_; rintro _ v ⟨rfl, q⟩; obtain rfl := q.symm) | (go_at_call 98; refine (cG _).mono ?_; rintro _ v ⟨rfl, q⟩; obtain rfl := q.symm))
    exact bodyPost_ret (results_two (p := 4) (u := 5) (ty := 160) rfl _ _ (w.heap.size + 1) 160 (tkA (tkP a)) (0, 0) _ rfl (HR.out.put (tkP a)) Tryd.underlying160 rfl (by kernel_rfl)) rfl ⟨by rw [K.out.1, K.out.2]; rfl, below_put HB.out (by omega) _ _ _ _ _⟩
  | some n =>
    simp only [Option.isSome, wvN] at cW
    cases bp
    · cases bg
      · have K := pb_yes HO.out
        obtain ⟨y, ey⟩ : ∃ y, s.extract a e = y := ⟨_, rfl⟩
        rw [ey] at K
        clear HO
        go_enter Tryd.func85, Tryd.ntmps85
        go_wp2_with (first | (go_at_call 91; refine cR.mono ?_; rintro _ v ⟨rfl, q⟩; obtain rfl := q.symm) | (go_at_call 95; refine (cT _).mono ?_; rintro _ v ⟨rfl, q⟩; obtain rfl := q.symm) | (go_at_call 96; refine (cW _).mono ?_; rintro _ v ⟨rfl, q⟩; obtain rfl := q.symm) | (go_at_call 97; refine (cP _).mono ?_; rintro _ v ⟨rfl, q⟩; obtain rfl := q.symm) | (go_at_call 98; refine (cG _).mono ?_; rintro _ v ⟨rfl, q⟩; obtain rfl := q.symm))
        exact bodyPost_ret (results_two (p := 4) (u := 5) (ty := 160) rfl _ _ (w.heap.size + 1) 160 (tkA ⟨3, y, ty, n, a⟩) (0, 0) _ rfl (HR.out.put ⟨3, y, ty, n, a⟩) Tryd.underlying160 rfl (by kernel_rfl)) rfl ⟨by rw [K.out.1, K.out.2]; rfl, below_put HB.out (by omega) _ _ _ _ _⟩
      · have K := pb_no HO.out
        clear HO
        go_enter Tryd.func85, Tryd.ntmps85
        go_wp2_with (first | (go_at_call 91; refine cR.mono ?_; rintro _ v ⟨rfl, q⟩; obtain rfl := q.symm) | (go_at_call 95; refine (cT _).mono ?_; rintro _ v ⟨rfl, q⟩; obtain rfl := q.symm) | (go_at_call 96; refine (cW _).mono ?_; rintro _ v ⟨rfl, q⟩; obtain rfl := q.symm) | (go_at_call 97; refine (cP _).mono ?_; rintro _ v ⟨rfl, q⟩; obtain rfl := q.symm) | (go_at_call 98; refine (cG _).mono ?_; rintro _ v ⟨rfl, q⟩; obtain rfl := q.symm))
        exact bodyPost_ret (results_two (p := 4) (u := 5) (ty := 160) rfl _ _ (w.heap.size + 1) 160 (tkA (tkP a)) (0, 0) _ rfl (HR.out.put (tkP a)) Tryd.underlying160 rfl (by kernel_rfl)) rfl ⟨by rw [K.out.1, K.out.2]; rfl, below_put HB.out (by omega) _ _ _ _ _⟩
    · have K := pb_no HO.out
      clear HO
      go_enter Tryd.func85, Tryd.ntmps85
      go_wp2_with (first | (go_at_call 91; refine cR.mono ?_; rintro _ v ⟨rfl, q⟩; obtain rfl := q.symm) | (go_at_call 95; refine (cT _).mono ?_; rintro _ v ⟨rfl, q⟩; obtain rfl := q.symm) | (go_at_call 96; refine (cW _).mono ?_; rintro _ v ⟨rfl, q⟩; obtain rfl := q.symm) | (go_at_call 97; refine (cP _).mono ?_; rintro _ v ⟨rfl, q⟩; obtain rfl := q.symm) | (go_at_call 98; refine (cG _).mono ?_; rintro _ v ⟨rfl, q⟩; obtain rfl := q.symm))
      exact bodyPost_ret (results_two (p := 4) (u := 5) (ty := 160) rfl _ _ (w.heap.size + 1) 160 (tkA (tkP a)) (0, 0) _ rfl (HR.out.put (tkP a)) Tryd.underlying160 rfl (by kernel_rfl)) rfl ⟨by rw [K.out.1, K.out.2]; rfl, below_put HB.out (by omega) _ _ _ _ _⟩
end Go.Proofs.YtighocmdlifheaaDoor

/-
  The walks of isPair and mark.
-/
namespace Go.Proofs.YtighocmdlifheaaDoor
open Go.RowKit

def pairB (s : ByteArray) (a : Nat) : Bool := (List.range 6).any (mkB s a)
theorem mk_two (i : Nat) (h : i < 6) : (mk i).size = 2 := by
  have : ∀ i, i < 6 → (mk i).size = 2 := by decide
  exact this i h
theorem mk_one (i : Nat) (h : 6 ≤ i) (h2 : i < 23) : (mk i).size = 1 := by
  have : ∀ i, i < 23 → 6 ≤ i → (mk i).size = 1 := by decide
  exact this i h2 h
theorem mkB_two {s : ByteArray} {a : Nat} (h : a + 2 ≤ s.size) (i : Nat) (hi : i < 6) : mkB s a i = ((s.extract a (a + 2)).toList == (mk i).data.toList) := by
  unfold mkB
  rw [mk_two i hi, decide_eq_true h, ByteArray.toList_eq, Bool.true_and]
theorem pairB_of {s : ByteArray} {a : Nat} (h : a + 2 ≤ s.size) {x : ByteArray} (hx : s.extract a (a + 2) = x) : pairB s a = ((x.toList == [61, 61]) || ((x.toList == [33, 61]) || ((x.toList == [60, 61]) || ((x.toList == [62, 61]) || ((x.toList == [38, 38]) || (x.toList == [124, 124])))))) := by
  unfold pairB
  have e : ∀ i, i < 6 → mkB s a i = (x.toList == (mk i).data.toList) := fun i hi => by rw [mkB_two h i hi, hx]
  rw [show List.range 6 = [0, 1, 2, 3, 4, 5] from rfl]
  simp only [List.any_cons, List.any_nil, Bool.or_false]
  rw [e 0 (by decide), e 1 (by decide), e 2 (by decide), e 3 (by decide), e 4 (by decide), e 5 (by decide)]
  rfl
theorem pairB_short {s : ByteArray} {a : Nat} (h : ¬ a + 2 ≤ s.size) : pairB s a = false := by
  unfold pairB
  rw [List.any_eq_false]
  intro i hi
  have hi6 : i < 6 := by simpa using hi
  unfold mkB
  rw [mk_two i hi6, decide_eq_false h]
  simp
set_option maxRecDepth 100000 in
set_option maxHeartbeats 4000000 in
theorem isPair_any (s : ByteArray) (a : Nat) (hs : s.size ≤ 140737488355328) (ha : a ≤ s.size) (w : World) :
    Calls Tryd.prog 99 #[.string s, .int .i64 a] w fun e w' => e = .returned (.bool (pairB s a)) ∧ w' = w := by
  by_cases h : a + 2 ≤ s.size
  · obtain ⟨d, hd⟩ : ∃ d, d = a + 2 := ⟨_, rfl⟩
    have hdI : (a : Int) + 2 = (d : Int) := by omega
    have hd1 : a ≤ d := by omega
    have hd2 : d ≤ s.size := by omega
    have h' : ¬ (s.size : Int) < (d : Int) := by omega
    obtain ⟨x, ex⟩ : ∃ x, s.extract a d = x := ⟨_, rfl⟩
    have hP := pairB_of h (x := x) (by rw [← hd]; exact ex)
    obtain ⟨b, eb⟩ : ∃ b, pairB s a = b := ⟨_, rfl⟩
    rw [eb] at hP ⊢
    have KB : Hid (b = ((x.toList == [61, 61]) || ((x.toList == [33, 61]) || ((x.toList == [60, 61]) || ((x.toList == [62, 61]) || ((x.toList == [38, 38]) || (x.toList == [124, 124]))))))) := hP
    clear hd h hP eb
    cases q0 : (x.toList == [61, 61])
    · cases q1 : (x.toList == [33, 61])
      · cases q2 : (x.toList == [60, 61])
        · cases q3 : (x.toList == [62, 61])
          · cases q4 : (x.toList == [38, 38])
            · cases q5 : (x.toList == [124, 124])
              · have KB2 : Hid (b = false) := by show _ = _; rw [KB.out, q0, q1, q2, q3, q4, q5]; rfl
                clear KB
                go_enter Tryd.func99, Tryd.ntmps99
                go_wp2_with fail
                go_ret
                exact ⟨retB (by rw [KB2.out]), rfl⟩
              · have KB2 : Hid (b = true) := by show _ = _; rw [KB.out, q0, q1, q2, q3, q4, q5]; simp
                clear KB
                go_enter Tryd.func99, Tryd.ntmps99
                go_wp2_with fail
                go_ret
                exact ⟨retB (by rw [KB2.out]), rfl⟩
            · have KB2 : Hid (b = true) := by show _ = _; rw [KB.out, q0, q1, q2, q3, q4]; simp
              clear KB
              go_enter Tryd.func99, Tryd.ntmps99
              go_wp2_with fail
              go_ret
              exact ⟨retB (by rw [KB2.out]), rfl⟩
          · have KB2 : Hid (b = true) := by show _ = _; rw [KB.out, q0, q1, q2, q3]; simp
            clear KB
            go_enter Tryd.func99, Tryd.ntmps99
            go_wp2_with fail
            go_ret
            exact ⟨retB (by rw [KB2.out]), rfl⟩
        · have KB2 : Hid (b = true) := by show _ = _; rw [KB.out, q0, q1, q2]; simp
          clear KB
          go_enter Tryd.func99, Tryd.ntmps99
          go_wp2_with fail
          go_ret
          exact ⟨retB (by rw [KB2.out]), rfl⟩
      · have KB2 : Hid (b = true) := by show _ = _; rw [KB.out, q0, q1]; simp
        clear KB
        go_enter Tryd.func99, Tryd.ntmps99
        go_wp2_with fail
        go_ret
        exact ⟨retB (by rw [KB2.out]), rfl⟩
    · have KB2 : Hid (b = true) := by show _ = _; rw [KB.out, q0]; simp
      clear KB
      go_enter Tryd.func99, Tryd.ntmps99
      go_wp2_with fail
      go_ret
      exact ⟨retB (by rw [KB2.out]), rfl⟩
  · have h' : (s.size : Int) < (a : Int) + 2 := by omega
    rw [pairB_short h]
    go_enter Tryd.func99, Tryd.ntmps99
    go_wp2_with fail
    go_ret
    exact ⟨rfl, rfl⟩
end Go.Proofs.YtighocmdlifheaaDoor
