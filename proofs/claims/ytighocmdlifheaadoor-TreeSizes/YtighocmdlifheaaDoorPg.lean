/-
  The walks of isPair and mark.
-/
import Derived.Test.YtighocmdlifheaaDoorPf
namespace Go.Proofs.YtighocmdlifheaaDoor
open Go.RowKit

def pairB (s : ByteArray) (a : Nat) : Bool := (List.range 6).any (mkB s a)
theorem mk_two (i : Nat) (h : i < 6) : (mk i).size = 2 := by
  have : ∀ i, i < 6 → (mk i).size = 2 := by decide
  exact this i h
theorem mk_one (i : Nat) (h : 6 ≤ i) (h2 : i < 23) : (mk i).size = 1 := by
  have : ∀ i, i < 23 → 6 ≤ i → (mk i).size = 1 := by decide
  exact this i h2 h
theorem mkB_two {s : ByteArray} {a : Nat} (h : a + 2 ≤ s.size) (i : Nat) (hi : i < 6) : mkB s a i = ((s.extract a (a + 2)).toList == (mk i).data.toList) := by
  unfold mkB
  rw [mk_two i hi, decide_eq_true h, ByteArray.toList_eq, Bool.true_and]
theorem pairB_of {s : ByteArray} {a : Nat} (h : a + 2 ≤ s.size) {x : ByteArray} (hx : s.extract a (a + 2) = x) : pairB s a = ((x.toList == [61, 61]) || ((x.toList == [33, 61]) || ((x.toList == [60, 61]) || ((x.toList == [62, 61]) || ((x.toList == [38, 38]) || (x.toList == [124, 124])))))) := by
  unfold pairB
  have e : ∀ i, i < 6 → mkB s a i = (x.toList == (mk i).data.toList) := fun i hi => by rw [mkB_two h i hi, hx]
  rw [show List.range 6 = [0, 1, 2, 3, 4, 5] from rfl]
  simp only [List.any_cons, List.any_nil, Bool.or_false]
  rw [e 0 (by decide), e 1 (by decide), e 2 (by decide), e 3 (by decide), e 4 (by decide), e 5 (by decide)]
  rfl
theorem pairB_short {s : ByteArray} {a : Nat} (h : ¬ a + 2 ≤ s.size) : pairB s a = false := by
  unfold pairB
  rw [List.any_eq_false]
  intro i hi
  have hi6 : i < 6 := by simpa using hi
  unfold mkB
  rw [mk_two i hi6, decide_eq_false h]
  simp
set_option maxRecDepth 100000 in
set_option maxHeartbeats 4000000 in
theorem isPair_any (s : ByteArray) (a : Nat) (hs : s.size ≤ 140737488355328) (ha : a ≤ s.size) (w : World) :
    Calls Tryd.prog 99 #[.string s, .int .i64 a] w fun e w' => e = .returned (.bool (pairB s a)) ∧ w' = w := by
  by_cases h : a + 2 ≤ s.size
  · obtain ⟨d, hd⟩ : ∃ d, d = a + 2 := ⟨_, rfl⟩
    have hdI : (a : Int) + 2 = (d : Int) := by omega
    have hd1 : a ≤ d := by omega
    have hd2 : d ≤ s.size := by omega
    have h' : ¬ (s.size : Int) < (d : Int) := by omega
    obtain ⟨x, ex⟩ : ∃ x, s.extract a d = x := ⟨_, rfl⟩
    have hP := pairB_of h (x := x) (by rw [← hd]; exact ex)
    obtain ⟨b, eb⟩ : ∃ b, pairB s a = b := ⟨_, rfl⟩
    rw [eb] at hP ⊢
    have KB : Hid (b = ((x.toList == [61, 61]) || ((x.toList == [33, 61]) || ((x.toList == [60, 61]) || ((x.toList == [62, 61]) || ((x.toList == [38, 38]) || (x.toList == [124, 124]))))))) := hP
    clear hd h hP eb
    cases q0 : (x.toList == [61, 61])
    · cases q1 : (x.toList == [33, 61])
      · cases q2 : (x.toList == [60, 61])
        · cases q3 : (x.toList == [62, 61])
          · cases q4 : (x.toList == [38, 38])
            · cases q5 : (x.toList == [124, 124])
              · have KB2 : Hid (b = false) := by show _ = _; rw [KB.out, q0, q1, q2, q3, q4, q5]; rfl
                clear KB
                go_enter Tryd.func99, Tryd.ntmps99
                go_wp2_with fail
                go_ret
                exact ⟨retB (by rw [KB2.out]), rfl⟩
              · have KB2 : Hid (b = true) := by show _ = _; rw [KB.out, q0, q1, q2, q3, q4, q5]; simp
                clear KB
                go_enter Tryd.func99, Tryd.ntmps99
                go_wp2_with fail
                go_ret
                exact ⟨retB (by rw [KB2.out]), rfl⟩
            · have KB2 : Hid (b = true) := by show _ = _; rw [KB.out, q0, q1, q2, q3, q4]; simp
              clear KB
              go_enter Tryd.func99, Tryd.ntmps99
              go_wp2_with fail
              go_ret
              exact ⟨retB (by rw [KB2.out]), rfl⟩
          · have KB2 : Hid (b = true) := by show _ = _; rw [KB.out, q0, q1, q2, q3]; simp
            clear KB
            go_enter Tryd.func99, Tryd.ntmps99
            go_wp2_with fail
            go_ret
            exact ⟨retB (by rw [KB2.out]), rfl⟩
        · have KB2 : Hid (b = true) := by show _ = _; rw [KB.out, q0, q1, q2]; simp
          clear KB
          go_enter Tryd.func99, Tryd.ntmps99
          go_wp2_with fail
          go_ret
          exact ⟨retB (by rw [KB2.out]), rfl⟩
      · have KB2 : Hid (b = true) := by show _ = _; rw [KB.out, q0, q1]; simp
        clear KB
        go_enter Tryd.func99, Tryd.ntmps99
        go_wp2_with fail
        go_ret
        exact ⟨retB (by rw [KB2.out]), rfl⟩
    · have KB2 : Hid (b = true) := by show _ = _; rw [KB.out, q0]; simp
      clear KB
      go_enter Tryd.func99, Tryd.ntmps99
      go_wp2_with fail
      go_ret
      exact ⟨retB (by rw [KB2.out]), rfl⟩
  · have h' : (s.size : Int) < (a : Int) + 2 := by omega
    rw [pairB_short h]
    go_enter Tryd.func99, Tryd.ntmps99
    go_wp2_with fail
    go_ret
    exact ⟨rfl, rfl⟩
end Go.Proofs.YtighocmdlifheaaDoor
