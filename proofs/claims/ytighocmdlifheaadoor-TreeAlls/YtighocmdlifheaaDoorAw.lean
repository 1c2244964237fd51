/-
  awake: the chapter's examples.
-/
import Derived.Test.YtighocmdlifheaaDoorEx
import Derived.Test.YtighocmdlifheaaDoorSg
import Derived.Test.YtighocmdlifheaaDoorRh
import Derived.Test.YtighocmdlifheaaDoorDo
import Derived.Test.YtighocmdlifheaaDoorBr
namespace Go.Proofs.YtighocmdlifheaaDoor
open Go.RowKit
theorem alike_p (h : Hd) : alike h { h with p := 0 } = true := by simp [alike]
theorem bare_same : ∀ {m m' : Nd}, Bare m m' → sameB m m' = true := by
  intro m0 m1 h0
  refine Nd.ind (P := fun m => ∀ m', Bare m m' → sameB m m' = true) (fun h a c ks ih m' hb => ?_) m0 m1 h0
  cases hb with
  | mk _ _ a' _ c' _ ks' hl hk =>
    simp only [sameB, Nd.h, Nd.ks, alike_p, hl, decide_true, Bool.true_and]
    have : ∀ (l l' : List Nd), l'.length = l.length → (∀ k ∈ l, ∀ m', Bare k m' → sameB k m' = true) → (∀ i (h1 : i < l.length) (h2 : i < l'.length), Bare l[i] l'[i]) → samesB l l' = true := by
      intro l
      induction l with
      | nil => intro l' _ _ _; cases l' <;> rfl
      | cons k l ihl =>
        intro l' h1 h2 h3
        cases l' with
        | nil => rfl
        | cons k' l' =>
          simp only [samesB, Bool.and_eq_true]
          exact ⟨h2 k (by simp) k' (h3 0 (by simp) (by simp)), ihl l' (by simpa using h1) (fun x hx => h2 x (by simp [hx])) (fun i g1 g2 => h3 (i + 1) (by simpa using g1) (by simpa using g2))⟩
    exact this ks ks' hl ih hk
def wrongN : Nd := .mk ⟨1, 0, 6, 0, 0, ⟨#[]⟩, 0⟩ none 0 []
theorem liesWrong (w : World) : Lies w wrongN := .mk _ _ _ _ ⟨by decide, by decide, by decide, by decide, by decide, by decide, by decide, by decide, by decide, by decide, by decide, by decide, by decide⟩ (Nat.le_refl _) (by decide) (fun i hi => by simp at hi) (fun k hk => by cases hk)
theorem Least.on {w w' : World} {b2 b3 b4 : Nat} (h : Least w b2 b3 b4) (k : Below w.heap.size w w') : Least w' b2 b3 b4 :=
  ⟨(k.block b2 (Array.getElem?_eq_some_iff.1 h.h2).1).trans h.h2, (k.block b3 (Array.getElem?_eq_some_iff.1 h.h3).1).trans h.h3, (k.block b4 (Array.getElem?_eq_some_iff.1 h.h4).1).trans h.h4⟩
theorem range_blk {w : World} {b : Nat} {C : Array Value} {t : TypeId} (h : w.heap[b]? = some (.cells C t (0, 0))) : w.rangeAt b 0 C.toList := fun j v hv => by
  rw [Nat.zero_add, cell_of h j, ← hv]; simp
set_option maxRecDepth 100000 in
theorem check_least {w : World} {b2 b3 b4 : Nat} (h : Least w b2 b3 b4) (ht : Tab w) :
    Calls Tryd.prog 26 #[.agg #[.string ⟨#[115]⟩, .slice none 0 0, .slice none 0 0, .slice (some ⟨b4, 0, none⟩) 1 1]] w fun e w' => e = .returned (.int .i64 0) ∧ Below w.heap.size w w' := by
  refine check_any _ _ _ _ 0 w (fun v hv => ?_)
  have hL := h.on hv
  refine (strat_one v [.string ⟨#[97]⟩, .slice (some ⟨b3, 0, none⟩) 1 1, .int .i64 0] rfl (by simp [Value.oneCell']) (fun v2 hv2 => ?_) b4 v (Below.refl _ _) (range_blk hL.h4) (ht.on hv)).mono ?_
  · have hL2 := hL.on hv2
    refine state_one v2 [.int .u8 4, .int .u8 0, .int .u8 0, .int .i64 0, .int .u8 1, .string ⟨#[]⟩, .slice none 0 0, .int .i64 0, .slice (some ⟨b2, 0, none⟩) 1 1, .int .i64 0] rfl (by simp [Value.oneCell']) (fun v3 hv3 => ?_) b3 v2 (Below.refl _ _) (range_blk hL2.h3) ((ht.on hv).on hv2)
    have hL3 := hL2.on hv3
    exact rule_one (doZ 6) rfl (by simp [doZ, ndZ, Value.oneCell']) (fun v4 => do_halt v4) b2 v3 (range_blk hL3.h2) (((ht.on hv).on hv2).on hv3)
  · rintro e w' ⟨rfl, hb⟩
    exact ⟨.inl ⟨rfl, rfl⟩, hb⟩
set_option maxRecDepth 100000 in
theorem check_none (w : World) (ht : Tab w) :
    Calls Tryd.prog 26 #[.agg #[.string ⟨#[115]⟩, .slice none 0 0, .slice none 0 0, .slice none 0 0]] w fun e w' => e = .returned (.int .i64 120) ∧ Below w.heap.size w w' := by
  refine check_any _ _ _ _ 120 w (fun v hv => (strat_none v (ht.on hv)).mono ?_)
  rintro e w' ⟨rfl, hb⟩
  exact ⟨.inr ⟨by decide, rfl⟩, hb⟩
theorem sum_form (b c : Nat) : formB (sumN b c) = true := rfl
theorem sum_dep (b c : Nat) : dep (sumN b c) = 1 := rfl
theorem sum_size (b c : Nat) : size (sumN b c) = 5 := rfl
end Go.Proofs.YtighocmdlifheaaDoor
