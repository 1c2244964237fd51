import Derived.Test.YtkfabnchhjfjjaaGreatDoorA0
import Derived.Test.YtkfabnchhjfjjaaGreatDoorA31
import Derived.Laws.OwnMore
import Derived.ArgAppend
import Derived.Maps.AppendAt
namespace Go.Proofs.YtkfabnchhjfjjaaGreatDoor
open Go.RowKit
theorem run_app1 {P : Program} (w : World) (t ty e : TypeId) (i : TypeInfo) (z : Value) (size bytes : Nat) (ht : P.underlying t = some (.slice e)) (hi : P.info? e = some i) (hz : i.zero = some z)
  (hsize : i.size = size) (hby : i.bytes = bytes) (hzs : z.cells.size = size) (hsz : 0 < size)
  (v : Value) (n : Nat) (xs : List Value) (hown : w.ownsRow 0 e size v n xs)
  (a : Addr) (news : List Value) (hl : news.length = size) (hnews : ∀ j u,news[j]? = some u → w.cell? (a.add j) = some u) (h1 : ∀ u ∈ news,u.oneCell' = true)
  (h63 : n + 1 ≤ maxLen) (hbytes : (n + 1) * bytes ≤ 140737488355328) :
  ∃ v' w',(Builtin.append_ #[t,t] ty #[v,.slice (some a) 1 1]).run P w = .ok v' w' ∧ w'.ownsRow 0 e size v' (n + 1) (xs ++ news) ∧
   ((∃ g,v.ownBlock = some g ∧ v'.ownBlock = some g ∧ w.grownBy w' (some g)) ∨ ((∃ g,v'.ownBlock = some g ∧ w§ ≤ g) ∧ w.grownBy w' none)) := by
 have hl' : news.length = 1 * size := by omega
 rcases hown.2 with ⟨rfl,rfl⟩ | ⟨g,cap,cur,rfl,hbg,hg,hnc,hcm,hcs,htake⟩
 ·obtain ⟨v',w',r1,r2,r3,_,r5⟩ := run_append_own_at (P := P) w 0 t ty e i z size bytes ht hi hz hsize hby hzs hsz _ 0 xs hown a 1 1 news hl' hnews h1 h63 hbytes (Nat.zero_le _)
  refine ⟨v',w',r1,r2,.inr ⟨?_,r3⟩⟩
  rcases r5 with r5 | r5
  ·exfalso
   rcases r2.2 with ⟨_,h0⟩ | ⟨g',_,_,rfl,_⟩
   ·omega
   ·simp [Value.ownBlock] at r5
  ·exact ⟨_,r5,Nat.le_refl _⟩
 ·by_cases hroom : n + 1 ≤ cap
  ·obtain ⟨w',r1,r2,r3⟩ := run_append_fits (P := P) w 0 t ty e i size ht hi hsize g n cap xs hown a 1 1 news hl' hnews h1 hroom
   exact ⟨_,w',r1,r2,.inl ⟨g,rfl,rfl,r3⟩⟩
  ·obtain ⟨v',w',r1,r2,r3⟩ := run_append_arg_grows (P := P) w t ty e i z size bytes ht hi hz hsize hby hzs hsz ⟨g,0,none⟩ n cap xs hown.1 (hown.cells (g := g) rfl) a 1 1 news hl' hnews (by omega) h63 hbytes
   refine ⟨v',w',r1,⟨r2.1,?_⟩,.inr ⟨?_,r3⟩⟩
   ·rcases r2.2 with h | ⟨g',c',cu,h1,h2,h3⟩
    ·exact .inl h
    ·exact .inr ⟨g',c',cu,h1,Nat.zero_le _,h3⟩
   ·rcases r2.2 with ⟨_,h0⟩ | ⟨g',c',cu,rfl,h2,h3⟩
    ·omega
    ·exact ⟨g',rfl,h2⟩
def RowX (w : World) (e : TypeId) (s : Nat) (v : Value) (n : Nat) (f : Nat → Value) : Prop :=
 Row w e s v n f ∨ ∃ g cur,v = .slice (some ⟨g,0,none⟩) n n ∧ w.heap[g]? = some (.cells cur e (0,0)) ∧ n ≤ maxLen ∧ n * s ≤ cur.size ∧ cur.toList.take (n * s) = (List.range (n * s)).map f
section
variable {w : World} {e : TypeId} {s n cap : Nat} {g : Nat} {f f' : Nat → Value} {v : Value}
theorem RowX.cell (h : RowX w e s (.slice (some ⟨g,0,none⟩) n cap) n f) {j : Nat} (hj : j < n * s) : w.cell? ⟨g,j,none⟩ = some (f j) := by
 rcases h with h | ⟨g',cur,e1,h1,_,h2,h3⟩
 ·exact h.cell hj
 ·have eg : g = g' := by simp at e1; exact e1.1
  subst eg
  rw [cell_of h1]
  have h8 : (cur.toList.take (n * s))[j]? = cur[j]? := by rw [List.getElem?_take_of_lt hj]; simp
  rw [← h8,h3,List.getElem?_map,List.getElem?_range hj]; rfl
theorem RowX.frozen (h : RowX w e s (.slice (some ⟨g,0,none⟩) n cap) n f) (j : Nat) : w.frozen? ⟨g,j,none⟩ = false := by
 rcases h with h | ⟨g',cur,e1,h1,_,h2,h3⟩
 ·exact h.frozen j
 ·have eg : g = g' := by simp at e1; exact e1.1
  subst eg
  exact frozen_of h1 j
theorem RowX.set (h : RowX w e s (.slice (some ⟨g,0,none⟩) n cap) n f) (j : Nat) (u : Value) : RowX (w.setCell ⟨g,j,none⟩ u) e s (.slice (some ⟨g,0,none⟩) n cap) n (fun i => if i = j then u else f i) := by
 rcases h with h | ⟨g',cur,e1,h1,hm,h2,h3⟩
 ·exact .inl (h.set j u)
 ·have eg : g = g' := by simp at e1; exact e1.1
  subst eg
  refine .inr ⟨g,cur.setIfInBounds j u,e1,heap_set u h1,hm,by simpa using h2,?_⟩
  rw [Array.toList_setIfInBounds,List.take_set,h3,range_map_set]
theorem RowX.congr (h : RowX w e s v n f) (he : ∀ j,j < n * s → f j = f' j) : RowX w e s v n f' := by
 rcases h with h | ⟨g',cur,e1,h1,hm,h2,h3⟩
 ·exact .inl (h.congr he)
 ·exact .inr ⟨g',cur,e1,h1,hm,h2,h3.trans (List.map_congr_left (fun j hj => he j (by simpa using hj)))⟩
theorem RowX.kind (h : RowX w e s v n f) : ∀ k,v.ownBlock = some k → ∃ c fz,w.heap[k]? = some (.cells c e fz) := by
 rcases h with h | ⟨g',cur,rfl,h1,hm,h2,h3⟩
 ·exact h.kind
 ·intro k hk
  have eg : g' = k := by simpa [Value.ownBlock] using hk
  subst eg
  exact ⟨_,_,h1⟩
theorem RowX.lt (h : RowX w e s v n f) : ∀ k,v.ownBlock = some k → k < w§ := fun k hk => by
 obtain ⟨c,fz,h1⟩ := h.kind k hk
 exact (Array.getElem?_eq_some_iff.1 h1).1
theorem RowX.of_block {w' : World} (h : RowX w e s v n f) (hb : ∀ k,v.ownBlock = some k → w'.heap[k]? = w.heap[k]?) : RowX w' e s v n f := by
 rcases h with h | ⟨g',cur,rfl,h1,hm,h2,h3⟩
 ·exact .inl (h.of_block hb)
 ·exact .inr ⟨g',cur,rfl,(hb g' rfl).trans h1,hm,h2,h3⟩
theorem RowX.form (h : RowX w e s v n f) : ∃ ao c,v = .slice ao n c ∧ (0 < n → ∃ g,ao = some ⟨g,0,none⟩) ∧ ((ao = none ∧ n = 0 ∧ c = 0) ∨ ∃ g,ao = some ⟨g,0,none⟩) := by
 rcases h with h | ⟨g',cur,rfl,h1,hm,h2,h3⟩
 ·exact h.form
 ·exact ⟨_,_,rfl,fun _ => ⟨g',rfl⟩,.inr ⟨g',rfl⟩⟩
theorem RowX.apart {e' : TypeId} {s' n' : Nat} {v' : Value} (h : RowX w e s v n f) (h' : Row w e' s' v' n' f') (hne : e ≠ e') : ∀ k,v.ownBlock = some k → v'.ownBlock ≠ some k := by
 intro k hk hk'
 obtain ⟨c,fz,h1⟩ := h.kind k hk
 obtain ⟨c',fz',h2⟩ := h'.kind k hk'
 rw [h1] at h2
 simp at h2
 exact hne h2.2.1
theorem Mv.rowX {w' : World} {F : Nat → Prop} (h : Mv w w' F) (hr : RowX w e s v n f) (hn : ∀ k,v.ownBlock = some k → ¬ F k) : RowX w' e s v n f :=
 hr.of_block (fun k hk => h.block k (hr.lt k hk) (hn k hk))
theorem run_app1X {P : Program} (w : World) (t ty e : TypeId) (i : TypeInfo) (z : Value) (size bytes : Nat) (ht : P.underlying t = some (.slice e)) (hi : P.info? e = some i) (hz : i.zero = some z)
  (hsize : i.size = size) (hby : i.bytes = bytes) (hzs : z.cells.size = size) (hsz : 0 < size)
  (v : Value) (n : Nat) (f : Nat → Value) (hown : RowX w e size v n f)
  (a : Addr) (news : List Value) (hl : news.length = size) (hnews : ∀ j u,news[j]? = some u → w.cell? (a.add j) = some u) (h1 : ∀ u ∈ news,u.oneCell' = true)
  (h63 : n + 1 ≤ maxLen) (hbytes : (n + 1) * bytes ≤ 140737488355328) :
  ∃ v' w',(Builtin.append_ #[t,t] ty #[v,.slice (some a) 1 1]).run P w = .ok v' w' ∧ w'.ownsRow 0 e size v' (n + 1) ((List.range (n * size)).map f ++ news) ∧
   ((∃ g,v.ownBlock = some g ∧ v'.ownBlock = some g ∧ w.grownBy w' (some g)) ∨ ((∃ g,v'.ownBlock = some g ∧ w§ ≤ g) ∧ w.grownBy w' none)) := by
 rcases hown with hr | ⟨g,cur,rfl,hg,hm,h2,h3⟩
 ·exact run_app1 w t ty e i z size bytes ht hi hz hsize hby hzs hsz v n _ hr a news hl hnews h1 h63 hbytes
 ·have hX : RowX w e size (.slice (some ⟨g,0,none⟩) n n) n f := .inr ⟨g,cur,rfl,hg,hm,h2,h3⟩
  obtain ⟨v',w',r1,r2,r3⟩ := run_append_arg_grows (P := P) w t ty e i z size bytes ht hi hz hsize hby hzs hsz ⟨g,0,none⟩ n n ((List.range (n * size)).map f) (by simp) (fun j u hu => by
   have hj : j < n * size := by
    have := (List.getElem?_eq_some_iff.1 hu).1
    simpa using this
   have hc := hX.cell hj
   rw [List.getElem?_map,List.getElem?_range hj] at hu
   have hu' : f j = u := by simpa using hu
   rw [← hu']
   by_cases h0 : j = 0
   ·subst h0; simpa [Addr.add] using hc
   ·simpa [Addr.add,h0] using hc) a 1 1 news (by omega) hnews (by omega) h63 hbytes
  refine ⟨v',w',r1,⟨r2.1,?_⟩,.inr ⟨?_,r3⟩⟩
  ·rcases r2.2 with h | ⟨g',c',cu,h1,h2,h3⟩
   ·exact .inl h
   ·exact .inr ⟨g',c',cu,h1,Nat.zero_le _,h3⟩
  ·rcases r2.2 with ⟨_,h0⟩ | ⟨g',c',cu,rfl,h2,h3⟩
   ·omega
   ·exact ⟨g',rfl,h2⟩
end
def bks (N : Nat) (V : Nat → Value) (b : Nat) : Prop := ∃ j,j < N ∧ (V j).ownBlock = some b
structure Aprt (w : World) (g N : Nat) (V : Nat → Value) : Prop where
 dis : ∀ j j',j < N → j' < N → j ≠ j' → ∀ b,(V j).ownBlock = some b → (V j').ownBlock ≠ some b
 far : ∀ j,j < N → (V j).ownBlock ≠ some g
 old : ∀ j,j < N → ∀ b,(V j).ownBlock = some b → b < w§
 gl : g < w§
theorem Aprt.hid {w : World} {g N : Nat} {V : Nat → Value} (h : Aprt w g N V) : Hid (Aprt w g N V) := h
structure P1 (e : TypeId) (s : Nat) (w v : World) (g N : Nat) (V : Nat → Value) (n : Nat → Nat) (C : Nat → Nat → Value) : Prop where
 row : ∀ j,j < N → RowX v e s (V j) (n j) (C j)
 cell : ∀ j,j < N → v.cell? ⟨g,j,none⟩ = some (V j)
 mv : Mv w v (bks N V)
section
variable {e le : TypeId} {s K : Nat} {w v : World} {g N : Nat} {V : Nat → Value} {n : Nat → Nat} {C D M A : Nat → Nat → Value} {i : Nat} {U : Nat → Value} {lv : Value} {k : Nat} {X : Value}
theorem P1.hid (h : P1 e s w v g N V n C) : Hid (P1 e s w v g N V n C) := h
theorem P1.congr (h : P1 e s w v g N V n C) (he : ∀ j,j < N → ∀ q,q < n j * s → C j q = D j q) : P1 e s w v g N V n D :=
 ⟨fun j hj => (h.row j hj).congr (fun q hq => he j hj q hq),h.cell,h.mv⟩
theorem P1.drew (h : P1 e s w v g N V n C) : P1 e s w v.drew g N V n C := ⟨fun j hj => (h.row j hj).of_block (fun _ _ => rfl),h.cell,h.mv.drew⟩
theorem P1.put (ap : Aprt w g N V) (h : P1 e s w v g N V n C) {b c : Nat} (q : Nat) (hi : i < N) (hV : V i = .slice (some ⟨b,0,none⟩) (n i) c) (x : Value) :
  P1 e s w (v.setCell ⟨b,q,none⟩ x) g N V n (fun j r => if j = i ∧ r = q then x else C j r) := by
 have hb : (V i).ownBlock = some b := by rw [hV]; rfl
 have hF : bks N V b := ⟨i,hi,hb⟩
 have hblk : ∀ r,r ≠ b → (v.setCell ⟨b,q,none⟩ x).heap[r]? = v.heap[r]? := fun r hr => Below.heap_setCell _ _ _ _ (by exact hr)
 refine ⟨fun j hj => ?_,fun j hj => ?_,h.mv.setCell (.inl hF) _⟩
 ·by_cases e : j = i
  ·subst e
   have hr := h.row j hj
   rw [hV] at hr ⊢
   exact (hr.set q x).congr fun r _ => by simp
  ·refine ((h.row j hj).of_block (fun r hr => hblk r (fun e2 => ?_))).congr (fun r _ => ?_)
   ·subst e2; exact ap.dis j i hj hi e r hr hb
   ·simp [e]
 ·rw [World.cell?_of_block (hblk g (fun e => ap.far i hi (by rw [hb,e])))]
  exact h.cell j hj
def RdO (v : World) (s : Nat) (V : Value) (n : Nat) (A : Nat → Value) : Prop := ∀ q,q < n * s → ∃ b c,V = .slice (some ⟨b,0,none⟩) n c ∧ v.cell? ⟨b,q,none⟩ = some (A q)
theorem RdO.of_row {V : Value} {n : Nat} {A : Nat → Value} (h : RowX v e s V n A) : RdO v s V n A := by
 intro q hq
 have hn : 0 < n := by
  rcases Nat.eq_zero_or_pos n with h0 | h0
  ·rw [h0] at hq; omega
  ·exact h0
 obtain ⟨ao,c,rfl,h1,_⟩ := h.form
 obtain ⟨b,rfl⟩ := h1 hn
 exact ⟨b,c,rfl,h.cell hq⟩
theorem RdO.blk {v' : World} {V : Value} {n : Nat} {A : Nat → Value} (h : RdO v s V n A) (hb : ∀ b,V.ownBlock = some b → v'.heap[b]? = v.heap[b]?) : RdO v' s V n A := by
 intro q hq
 obtain ⟨b,c,e,hf⟩ := h q hq
 exact ⟨b,c,e,(World.cell?_of_block (hb b (by rw [e]; rfl))).trans hf⟩
theorem RdO.same {V X : Value} {n m g : Nat} {A B : Nat → Value} (h : RdO v s V n A) {v' : World} (hX : RowX v' e s X m B) (hg : X.ownBlock = some g) (hV : V.ownBlock = some g) (hm : n ≤ m) (he : ∀ q,q < n * s → B q = A q) : RdO v' s V n A := by
 intro q hq
 obtain ⟨b,c,rfl,_⟩ := h q hq
 obtain ⟨b',c',rfl,hf⟩ := RdO.of_row hX q (Nat.lt_of_lt_of_le hq (Nat.mul_le_mul_right s hm))
 simp [Value.ownBlock] at hg hV
 subst hg; subst hV
 refine ⟨_,c,rfl,?_⟩
 rw [← he q hq]; exact hf
structure P2 (e le : TypeId) (s K : Nat) (w v : World) (g N : Nat) (V : Nat → Value) (n : Nat → Nat) (M A : Nat → Nat → Value) (i : Nat) (U : Nat → Value) (lv : Value) : Prop where
 rd : ∀ j,j < N → RdO v s (V j) (n j) (M j)
 row : ∀ j,i ≤ j → j < N → RowX v e s (V j) (n j) (M j)
 urow : ∀ j,j < i → RowX v e s (U j) (n j + K) (A j)
 uown : ∀ j,j < i → (U j).ownBlock = (V j).ownBlock ∨ ∃ b,(U j).ownBlock = some b ∧ w§ ≤ b
 udis : ∀ j j',j < i → j' < i → j ≠ j' → ∀ b,(U j).ownBlock = some b → (U j').ownBlock ≠ some b
 long : Row v le 1 lv i U
 lnew : ∀ b,lv.ownBlock = some b → w§ ≤ b
 cell : ∀ j,j < N → v.cell? ⟨g,j,none⟩ = some (V j)
 mv : Mv w v (bks N V)
structure P3 (e le : TypeId) (s K : Nat) (w v : World) (g N : Nat) (V : Nat → Value) (n : Nat → Nat) (M A : Nat → Nat → Value) (i : Nat) (U : Nat → Value) (lv : Value) (k : Nat) (X : Value) : Prop where
 rd : ∀ j,j < N → RdO v s (V j) (n j) (M j)
 row : ∀ j,i < j → j < N → RowX v e s (V j) (n j) (M j)
 urow : ∀ j,j < i → RowX v e s (U j) (n j + K) (A j)
 uown : ∀ j,j < i → (U j).ownBlock = (V j).ownBlock ∨ ∃ b,(U j).ownBlock = some b ∧ w§ ≤ b
 udis : ∀ j j',j < i → j' < i → j ≠ j' → ∀ b,(U j).ownBlock = some b → (U j').ownBlock ≠ some b
 xrow : RowX v e s X (n i + k) (A i)
 xown : X.ownBlock = (V i).ownBlock ∨ ∃ b,X.ownBlock = some b ∧ w§ ≤ b
 xdis : ∀ j,j < i → ∀ b,X.ownBlock = some b → (U j).ownBlock ≠ some b
 long : Row v le 1 lv i U
 lnew : ∀ b,lv.ownBlock = some b → w§ ≤ b
 cell : ∀ j,j < N → v.cell? ⟨g,j,none⟩ = some (V j)
 mv : Mv w v (bks N V)
theorem P2.hid (h : P2 e le s K w v g N V n M A i U lv) : Hid (P2 e le s K w v g N V n M A i U lv) := h
theorem P3.hid (h : P3 e le s K w v g N V n M A i U lv k X) : Hid (P3 e le s K w v g N V n M A i U lv k X) := h
theorem P2.begin (ap : Aprt w g N V) (h : P2 e le s K w v g N V n M A i U lv) (hi : i < N) (hA : ∀ q,q < n i * s → M i q = A i q) : P3 e le s K w v g N V n M A i U lv 0 (V i) :=
 ⟨h.rd,fun j hj => h.row j (by omega),h.urow,h.uown,h.udis,(h.row i (Nat.le_refl _) hi).congr (fun q hq => hA q hq),.inl rfl,fun j hj b hb e => by
   rcases h.uown j hj with h1 | ⟨b',h1,h2⟩
   ·rw [h1] at e; exact ap.dis i j hi (by omega) (by omega) b hb e
   ·rw [h1] at e; cases e; have := ap.old i hi _ hb; omega,h.long,h.lnew,h.cell,h.mv⟩
theorem P3.call {v' : World} (ap : Aprt w g N V) (h : P3 e le s K w v g N V n M A i U lv k X) (hb : Below v§ v v') : P3 e le s K w v' g N V n M A i U lv k X := by
 have keep : ∀ {e : TypeId} {s m : Nat} {x : Value} {f : Nat → Value},RowX v e s x m f → RowX v' e s x m f := fun hr => hr.of_block (fun b hbb => hb.block b (hr.lt b hbb))
 have keepL : ∀ {e : TypeId} {s m : Nat} {x : Value} {f : Nat → Value},Row v e s x m f → Row v' e s x m f := fun hr => hr.of_block (fun b hbb => hb.block b (hr.lt b hbb))
 refine ⟨fun j hj => (h.rd j hj).blk (fun b hbb => hb.block b (Nat.lt_of_lt_of_le (ap.old j hj b hbb) h.mv.size)),fun j h1 h2 => keep (h.row j h1 h2),fun j hj => keep (h.urow j hj),h.uown,h.udis,keep h.xrow,h.xown,h.xdis,keepL h.long,h.lnew,fun j hj => ?_,?_⟩
 ·rw [hb.cell (show (⟨g,j,none⟩ : Addr).block < _ from Nat.lt_of_lt_of_le ap.gl h.mv.size)]; exact h.cell j hj
 ·exact h.mv.trans (F' := fun _ => False) ⟨hb.os,hb.tape,hb.output,hb.size,fun b hbb _ => hb.block b hbb⟩ (fun b e => e.elim)
theorem P3.app {v' : World} {X' : Value} (hel : e ≠ le) (ap : Aprt w g N V) (hi : i < N) (hA : ∀ q,q < n i * s → A i q = M i q) (h : P3 e le s K w v g N V n M A i U lv k X)
  (hr : RowX v' e s X' (n i + (k + 1)) (A i))
  (hc : (∃ q,X.ownBlock = some q ∧ X'.ownBlock = some q ∧ v.grownBy v' (some q)) ∨ ((∃ q,X'.ownBlock = some q ∧ v§ ≤ q) ∧ v.grownBy v' none)) : P3 e le s K w v' g N V n M A i U lv (k + 1) X' := by
 rcases hc with ⟨q,e1,e2,hg⟩ | ⟨⟨q,e2,hq⟩,hg⟩
 ·have hblk : ∀ b,b < v§ → b ≠ q → v'.heap[b]? = v.heap[b]? := fun b hb hne => hg.block b hb (fun e => hne (by cases e; rfl))
  have keep : ∀ {e : TypeId} {s m : Nat} {x : Value} {f : Nat → Value},RowX v e s x m f → (∀ b,x.ownBlock = some b → b ≠ q) → RowX v' e s x m f := fun hr hne => hr.of_block (fun b hb => hblk b (hr.lt b hb) (hne b hb))
  have keepL : ∀ {e : TypeId} {s m : Nat} {x : Value} {f : Nat → Value},Row v e s x m f → (∀ b,x.ownBlock = some b → b ≠ q) → Row v' e s x m f := fun hr hne => hr.of_block (fun b hb => hblk b (hr.lt b hb) (hne b hb))
  have vne : ∀ j,j < N → j ≠ i → ∀ b,(V j).ownBlock = some b → b ≠ q := by
   intro j hj hne b hb e
   subst e
   rcases h.xown with h1 | ⟨b',h1,h2⟩
   ·exact ap.dis j i hj hi hne b hb (by rw [← h1]; exact e1)
   ·rw [e1] at h1; cases h1; have := ap.old j hj b hb; omega
  have gne : g ≠ q := by
   intro e
   rcases h.xown with h1 | ⟨b',h1,h2⟩
   ·exact ap.far i hi (by rw [← h1,e1,e])
   ·rw [e1] at h1; cases h1; have := ap.gl; omega
  have hF : bks N V q ∨ w§ ≤ q := by
   rcases h.xown with h1 | ⟨b',h1,h2⟩
   ·exact .inl ⟨i,hi,by rw [← h1]; exact e1⟩
   ·rw [e1] at h1; cases h1; exact .inr h2
  refine ⟨fun j hj => ?_,fun j h1 h2 => keep (h.row j h1 h2) (vne j h2 (by omega)),fun j hj => keep (h.urow j hj) (fun b hb e => ?_),h.uown,h.udis,hr,?_,fun j hj b hb => ?_,keepL h.long (fun b hb e => ?_),h.lnew,fun j hj => ?_,?_⟩
  ·by_cases hji : j = i
   ·subst hji
    rcases h.xown with h1 | ⟨b',h1,h2⟩
    ·exact (h.rd j hj).same hr e2 (by rw [← h1]; exact e1) (by omega) hA
    ·rw [e1] at h1; cases h1
     exact (h.rd j hj).blk (fun b hb => hblk b (Nat.lt_of_lt_of_le (ap.old j hj b hb) h.mv.size) (by have := ap.old j hj b hb; omega))
   ·exact (h.rd j hj).blk (fun b hb => hblk b (Nat.lt_of_lt_of_le (ap.old j hj b hb) h.mv.size) (vne j hj hji b hb))
  ·subst e; exact h.xdis j hj b e1 hb
  ·rcases h.xown with h1 | h1
   ·exact .inl (by rw [e2,← h1,e1])
   ·exact .inr (by rw [e2,← e1]; exact h1)
  ·rw [e2] at hb; exact h.xdis j hj b (by rw [e1]; exact hb)
  ·subst e; exact (h.xrow.apart h.long hel) b e1 hb
  ·rw [World.cell?_of_block (hblk g (Nat.lt_of_lt_of_le ap.gl h.mv.size) gne)]; exact h.cell j hj
  ·exact h.mv.grown hg (fun b e => by cases e; exact hF)
 ·have hblk : ∀ b,b < v§ → v'.heap[b]? = v.heap[b]? := fun b hb => hg.block b hb (fun e => by cases e)
  have keep : ∀ {e : TypeId} {s m : Nat} {x : Value} {f : Nat → Value},RowX v e s x m f → RowX v' e s x m f := fun hr => hr.of_block (fun b hb => hblk b (hr.lt b hb))
  have keepL : ∀ {e : TypeId} {s m : Nat} {x : Value} {f : Nat → Value},Row v e s x m f → Row v' e s x m f := fun hr => hr.of_block (fun b hb => hblk b (hr.lt b hb))
  have hsz := h.mv.size
  refine ⟨fun j hj => (h.rd j hj).blk (fun b hb => hblk b (Nat.lt_of_lt_of_le (ap.old j hj b hb) hsz)),fun j h1 h2 => keep (h.row j h1 h2),fun j hj => keep (h.urow j hj),h.uown,h.udis,hr,.inr ⟨q,e2,by omega⟩,fun j hj b hb e => ?_,keepL h.long,h.lnew,fun j hj => ?_,h.mv.grown hg (fun b e => by cases e)⟩
  ·rw [e2] at hb; cases hb
   have := (h.urow j hj).lt _ e
   omega
  ·rw [World.cell?_of_block (hblk g (Nat.lt_of_lt_of_le ap.gl hsz))]; exact h.cell j hj
theorem P3.fin {v' : World} {lv' : Value} (hel : e ≠ le) (ap : Aprt w g N V) (h : P3 e le s K w v g N V n M A i U lv K X)
  (hr : Row v' le 1 lv' (i + 1) (fun j => if j = i then X else U j)) (hg : v.grownBy v' lv.ownBlock) (ho : lv'.ownBlock = lv.ownBlock ∨ lv'.ownBlock = some v§) :
  P2 e le s K w v' g N V n M A (i + 1) (fun j => if j = i then X else U j) lv' := by
 have hblk : ∀ b,b < v§ → lv.ownBlock ≠ some b → v'.heap[b]? = v.heap[b]? := fun b hb hne => hg.block b hb (fun e => hne e.symm)
 have keep : ∀ {m : Nat} {x : Value} {f : Nat → Value},RowX v e s x m f → RowX v' e s x m f := fun hr => hr.of_block (fun b hb => hblk b (hr.lt b hb) (fun e => (hr.apart h.long hel) b hb e))
 have lold : ∀ b,b < w§ → lv.ownBlock ≠ some b := fun b hb e => by have := h.lnew b e; omega
 have hsz := h.mv.size
 refine ⟨fun j hj => (h.rd j hj).blk (fun b hb => hblk b (Nat.lt_of_lt_of_le (ap.old j hj b hb) hsz) (lold b (ap.old j hj b hb))),fun j h1 h2 => keep (h.row j (by omega) h2),fun j hj => ?_,fun j hj => ?_,fun j j' hj hj' hne b => ?_,hr,fun b hb => ?_,fun j hj => ?_,h.mv.grown hg (fun b e => .inr (h.lnew b e))⟩
 ·by_cases e : j = i
  ·subst e; simp only [if_true]; exact keep h.xrow
  ·simp only [e,if_false]; exact keep (h.urow j (by omega))
 ·by_cases e : j = i
  ·subst e; simp only [if_true]; exact h.xown
  ·simp only [e,if_false]; exact h.uown j (by omega)
 ·by_cases e : j = i
  ·subst e
   simp only [if_true,show ¬ j' = j from fun x => hne x.symm,if_false]
   exact fun hb => h.xdis j' (by omega) b hb
  ·by_cases e' : j' = i
   ·subst e'
    simp only [e,if_false,if_true]
    exact fun hb hb' => h.xdis j (by omega) b hb' hb
   ·simp only [e,e',if_false]
    exact h.udis j j' (by omega) (by omega) hne b
 ·rcases ho with h1 | h1
  ·rw [h1] at hb; exact h.lnew b hb
  ·rw [h1] at hb; cases hb; exact hsz
 ·rw [World.cell?_of_block (hblk g (Nat.lt_of_lt_of_le ap.gl hsz) (lold g ap.gl))]; exact h.cell j hj
theorem P1.done (h : P1 e s w v g N V n M) : P2 e le s K w v g N V n M A 0 (fun _ => .slice none 0 0) (.slice none 0 0) :=
 ⟨fun j hj => RdO.of_row (h.row j hj),fun j _ hj => h.row j hj,fun j hj => by omega,fun j hj => by omega,fun j j' hj => by omega,Row.nil _ _ _ _,fun b hb => by simp [Value.ownBlock] at hb,h.cell,h.mv⟩
theorem P3.form (h : P3 e le s K w v g N V n M A i U lv k X) : ∃ ao c,X = .slice ao (n i + k) c := by
 obtain ⟨ao,c,e,_⟩ := h.xrow.form
 exact ⟨ao,c,e⟩
theorem P2.look (hs : 0 < s) (hK : 0 < K) (h : P2 e le s K w v g N V n M A N U lv) (hi : i < N) :
  ∃ gl lc bu cu,lv = .slice (some ⟨gl,0,none⟩) N lc ∧ U i = .slice (some ⟨bu,0,none⟩) (n i + K) cu ∧ v.cell? ⟨gl,i,none⟩ = some (.slice (some ⟨bu,0,none⟩) (n i + K) cu) ∧ ∀ q,q < (n i + K) * s → v.cell? ⟨bu,q,none⟩ = some (A i q) := by
 obtain ⟨ao,lc,e1,h1,_⟩ := h.long.form
 obtain ⟨gl,rfl⟩ := h1 (by omega)
 have hu := h.urow i hi
 obtain ⟨bu,cu,e2,_⟩ := RdO.of_row hu 0 (Nat.mul_pos (by omega) hs)
 have hl := h.long
 rw [e1] at hl
 refine ⟨gl,lc,bu,cu,e1,e2,?_,fun q hq => ?_⟩
 ·rw [← e2]; exact hl.cell (by omega)
 ·obtain ⟨b',c',e3,hf⟩ := RdO.of_row hu q hq
  rw [e2] at e3
  simp at e3
  rw [e3.1]; exact hf
end
set_option linter.unusedVariables false
set_option linter.unusedSimpArgs false
theorem spot_any (i k : Nat) (hi : i ≤ 3000000) (hk : k ≤ 1000000000) (w : World) : Calls zG 83 #[zI i,zI k] w fun e w' => e = .returned (zI ((i : Int) * 20000 + (k : Int))) ∧ w' = w := by
 go_enter Tryz.func83,Tryz.ntmps83
 go_wp2
 go_ret
 exact ⟨rfl,rfl⟩
theorem behindR_any (i k : Nat) (hi : i ≤ 3000000) (hk : k ≤ 1000) (w : World) : Calls zG 84 #[zI i,zI k] w fun e w' => e = .returned (zI (-1 - (i : Int) * 20 - (k : Int))) ∧ w' = w := by
 go_enter Tryz.func84,Tryz.ntmps84
 go_wp2
 go_ret
 exact ⟨rfl,rfl⟩
def spI (i k : Nat) : Int := (i : Int) * 20000 + (k : Int)
def bhI (i k : Nat) : Int := -1 - (i : Int) * 20 - (k : Int)
theorem spot_sp (i k : Nat) (hi : i ≤ 3000000) (hk : k ≤ 1000000000) (w : World) : Calls zG 83 #[zI i,zI k] w fun e w' => e = .returned (zI (spI i k)) ∧ w' = w := spot_any i k hi hk w
theorem behind_bh (i k : Nat) (hi : i ≤ 3000000) (hk : k ≤ 1000) (w : World) : Calls zG 84 #[zI i,zI k] w fun e w' => e = .returned (zI (bhI i k)) ∧ w' = w := behindR_any i k hi hk w
theorem drewN_addO (w : World) (a b : Nat) : (w.drewN a).drewN b = w.drewN (a + b) := by
 unfold World.drewN; simp [Nat.add_assoc]
theorem below_drewMv {w v : World} {F : Nat → Prop} (h : Mv w v F) (n : Nat) : Mv w (v.drewN n) F := ⟨h.os,h.tape,h.output,h.size,h.block⟩
theorem infL53 : (Tryz.prog.info? 62).map (fun i => (i.zero,i.size,i.bytes)) = some (some (.slice none 0 0),1,24) := by kernel_rfl
def cmTN (C : Nat → Nat → Value) (i k : Nat) (j q : Nat) : Value := if q % 8 = 7 ∧ (j < i ∨ (j = i ∧ q / 8 < k)) then zI (spI j (q / 8)) else C j q
def mkTN (C : Nat → Nat → Value) (j q : Nat) : Value := if q % 8 = 7 then zI (spI j (q / 8)) else C j q
def nwTN (m : Int) : Array Value := #[zU 0,zU 0,zU 0,zI 0,zU 0,.string ⟨#[]⟩,.slice none 0 0,zI m]
def apTN (C : Nat → Nat → Value) (n : Nat → Nat) (j q : Nat) : Value := if q < n j * 8 then mkTN C j q else (nwTN (bhI j (q / 8 - n j))).getD (q % 8) (zI 0)
theorem apTN_in {C : Nat → Nat → Value} {n : Nat → Nat} {j q : Nat} (h : q < n j * 8) : apTN C n j q = mkTN C j q := if_pos h
theorem apTN_out {C : Nat → Nat → Value} {n : Nat → Nat} {j k : Nat} : apTN C n j ((n j + k) * 8 + 7) = zI (bhI j k) := by
 unfold apTN
 rw [if_neg (by omega),show ((n j + k) * 8 + 7) / 8 - n j = k by omega,show ((n j + k) * 8 + 7) % 8 = 7 by omega]
 rfl
theorem nwTN_at (m : Int) : ∀ j,j < 8 → (nwTN m).toList[j]? = some ((fun r => (nwTN m).getD r (zI 0)) j)
 | 0,_ => rfl
 | 1,_ => rfl
 | 2,_ => rfl
 | 3,_ => rfl
 | 4,_ => rfl
 | 5,_ => rfl
 | 6,_ => rfl
 | 7,_ => rfl
 | _ + 8,h => absurd h (by omega)
theorem nwTN_one (m : Int) : ∀ u ∈ (nwTN m).toList,u.oneCell' = true := by
 intro u hu
 simp [nwTN] at hu
 rcases hu with rfl | rfl | rfl | rfl | rfl | rfl | rfl | rfl <;> rfl
theorem P1.startTN {w v : World} {g N : Nat} {V : Nat → Value} {n : Nat → Nat} {C : Nat → Nat → Value} (h : P1 64 8 w v g N V n C) : P1 64 8 w v g N V n (cmTN C 0 0) :=
 h.congr (fun j _ q _ => by unfold cmTN; rw [if_neg (by omega)])
theorem P1.nextTN {w v : World} {g N : Nat} {V : Nat → Value} {n : Nat → Nat} {C : Nat → Nat → Value} {i : Nat} (h : P1 64 8 w v g N V n (cmTN C i (n i))) : P1 64 8 w v g N V n (cmTN C (i + 1) 0) :=
 h.congr (fun j _ q hq => by
  unfold cmTN
  by_cases e : q % 8 = 7 ∧ (j < i ∨ (j = i ∧ q / 8 < n i))
  ·rw [if_pos e,if_pos ⟨e.1,.inl (by omega)⟩]
  ·rw [if_neg e]
   by_cases e2 : q % 8 = 7 ∧ (j < i + 1 ∨ (j = i + 1 ∧ q / 8 < 0))
   ·exfalso
    apply e
    refine ⟨e2.1,?_⟩
    by_cases e3 : j < i
    ·exact .inl e3
    ·have e4 : j = i := by omega
     subst e4
     exact .inr ⟨rfl,by omega⟩
   ·rw [if_neg e2])
theorem P1.markTN {w v : World} {g N : Nat} {V : Nat → Value} {n : Nat → Nat} {C : Nat → Nat → Value} (ap : Aprt w g N V) {i k b c : Nat} (h : P1 64 8 w v g N V n (cmTN C i k)) (hi : i < N) (hV : V i = .slice (some ⟨b,0,none⟩) (n i) c) :
  P1 64 8 w (v.setCell ⟨b,k * 8 + 7,none⟩ (zI (spI i k))) g N V n (cmTN C i (k + 1)) :=
 (h.put ap (k * 8 + 7) hi hV (zI (spI i k))).congr (fun j _ q _ => by
  unfold cmTN
  by_cases e : j = i ∧ q = k * 8 + 7
  ·obtain ⟨rfl,rfl⟩ := e
   rw [if_pos ⟨rfl,rfl⟩,if_pos ⟨by omega,.inr ⟨rfl,by omega⟩⟩,show (k * 8 + 7) / 8 = k by omega]
  ·rw [if_neg e]
   by_cases e' : q % 8 = 7 ∧ (j < i ∨ (j = i ∧ q / 8 < k))
   ·rw [if_pos e',if_pos ⟨e'.1,e'.2.elim (fun h => .inl h) (fun h => .inr ⟨h.1,by omega⟩)⟩]
   ·rw [if_neg e',if_neg (by omega)])
theorem P1.doneTN {w v : World} {g N : Nat} {V : Nat → Value} {n : Nat → Nat} {C : Nat → Nat → Value} (h : P1 64 8 w v g N V n (cmTN C N 0)) : P1 64 8 w v g N V n (mkTN C) :=
 h.congr (fun j hj q _ => by
  unfold cmTN mkTN
  by_cases e : q % 8 = 7
  ·rw [if_pos ⟨e,.inl hj⟩,if_pos e]
  ·rw [if_neg (fun h => e h.1),if_neg e])
theorem append_markTN {w v : World} {g N : Nat} {V : Nat → Value} {n : Nat → Nat} {C : Nat → Nat → Value} {i : Nat} {U : Nat → Value} {lv : Value} {k : Nat} {X : Value} {ops : Array Oper} {rest : List Oper} {o : Oper} {a : Act} {Q : Exit → Act → World → Prop} (hgd : o.guard = none) (d x : Operand)
  (ho : o.op = .call { callee := .builtin .append,args := #[d,x],argTypes := #[62,62] }) (ap : Aprt w g N V) (hi : i < N) (h : P3 64 62 8 8 w v g N V n (mkTN C) (apTN C n) i U lv k X) (hs : a.eval d = X) (hx : a.eval x = .slice (some ⟨v§,0,none⟩) 1 1) (hlen : n i + k ≤ 1000000000)
  (hK : ∀ X' v',P3 64 62 8 8 w v' g N V n (mkTN C) (apTN C n) i U lv (k + 1) X' → wpList Tryz.prog ops Q rest (a.put o.dst X') v') :
  wpList Tryz.prog ops Q (o :: rest) a (v.alloc (.cells (nwTN (bhI i k)) 64)) := by
 obtain ⟨m,em⟩ : ∃ m : Int,m = bhI i k := ⟨_,rfl⟩
 rw [← em]
 obtain ⟨i0,h0,hz0,hz1,hz2⟩ := info_parts infN
 have h' := h.call ap (below_new v (.cells (nwTN m) 64))
 obtain ⟨X',v',r1,r2,r3⟩ := run_app1X (P := Tryz.prog) (v.alloc (.cells (nwTN m) 64)) 62 o.type 64 i0 _ 8 72 Tryz.underlying62 h0 hz0 hz1 hz2 rfl (by decide) X (n i + k) _ h'.xrow ⟨v§,0,none⟩ (nwTN m).toList rfl (World.news_of_block (heap_new v _)) (nwTN_one m) (by unfold maxLen; omega) (by omega)
 refine wpList_plain hgd fun K hK' => ?_
 unfold Oper.wp execOp
 simp only [ho,resolve,invoke,builtin,Sem.run_bind,Sem.run_pure,Result.andThen_ok,List.map_toArray,List.map_cons,List.map_nil,hs,hx,r1]
 refine hK' _ _ (hK X' v' (h'.app (by decide) ap hi (fun q hq => apTN_in hq) ?_ r3))
 have hr := Row.snoc (x := fun r => (nwTN m).getD r (zI 0)) r2 rfl (nwTN_at m)
 refine (show RowX v' 64 8 X' (n i + (k + 1)) _ from .inl hr).congr fun j hj => ?_
 by_cases e : j < (n i + k) * 8
 ·simp only [e,if_true]
 ·simp only [e,if_false]
  unfold apTN
  rw [if_neg (by omega),show j / 8 - n i = k by omega,show j % 8 = j - (n i + k) * 8 by omega,em]
theorem append_longTN {w v : World} {g N : Nat} {V : Nat → Value} {n : Nat → Nat} {M A : Nat → Nat → Value} {i : Nat} {U : Nat → Value} {lv : Value} {X : Value} {ops : Array Oper} {rest : List Oper} {o : Oper} {a : Act} {Q : Exit → Act → World → Prop} (hgd : o.guard = none) (d x : Operand)
  (ho : o.op = .call { callee := .builtin .append,args := #[d,x],argTypes := #[25,25] }) (ap : Aprt w g N V) (h : P3 64 62 8 8 w v g N V n M A i U lv 8 X) (hX1 : X.oneCell' = true) (hs : a.eval d = lv) (hx : a.eval x = .slice (some ⟨v§,0,none⟩) 1 1) (hlen : i ≤ 3000000)
  (hK : ∀ lv' v',P2 64 62 8 8 w v' g N V n M A (i + 1) (fun j => if j = i then X else U j) lv' → wpList Tryz.prog ops Q rest (a.put o.dst lv') v') :
  wpList Tryz.prog ops Q (o :: rest) a (v.alloc (.cells #[X] 62)) := by
 obtain ⟨i0,h0,hz0,hz1,hz2⟩ := info_parts infL53
 have h' := h.call ap (below_new v (.cells #[X] 62))
 refine wpList_append_own_at _ hgd d x 25 ho 0 62 i0 _ 1 24 Tryz.underlying25 h0 hz0 hz1 hz2 rfl (by decide) lv i _ hs h'.long ⟨v§,0,none⟩ 1 1 [X] hx rfl (World.news_of_block (heap_new v _)) (by intro u hu; simp at hu; rw [hu]; exact hX1) (by unfold maxLen; omega) (by omega) (Nat.zero_le _) ?_
 intro lv' v' r1 r2 _ r4
 refine hK lv' v' (h'.fin (by decide) ap ?_ r2 r4)
 have hr := Row.snoc (x := fun _ => X) r1 rfl (fun j hj => by obtain rfl : j = 0 := (by omega); rfl)
 refine hr.congr fun j hj => ?_
 by_cases e : j < i * 1
 ·rw [if_pos e,if_neg (show ¬ j = i by omega)]
 ·rw [if_neg e,if_pos (show j = i by omega)]
set_option maxRecDepth 100000 in
set_option maxHeartbeats 8000000 in
theorem ownTN_any (w : World) (g N c : Nat) (V : Nat → Value) (n : Nat → Nat) (C : Nat → Nat → Value) (hC : ∀ j k,j < N → k < n j → ∃ p,C j (k * 8 + 7) = zI p) (hN : N ≤ 3000000) (hn : ∀ j,j < N → n j ≤ 100000000) (ap : Aprt w g N V) (h : P1 64 8 w w g N V n C) :
  Calls zG 34 #[.slice (some ⟨g,0,none⟩) N c] w fun e w' => e = .returned (.bool true) ∧ Mv w w' (bks N V) := by
 have AP := ap.hid
 have HFm : Hid (∀ j,j < N → ∃ ao c,V j = .slice ao (n j) c ∧ (0 < n j → ∃ b,ao = some ⟨b,0,none⟩)) := fun j hj => by
  obtain ⟨ao,c,e,h1,_⟩ := (h.row j hj).form
  exact ⟨ao,c,e,h1⟩
 have H1 := h.startTN.hid
 have HN : Hid (∀ j,j < N → n j ≤ 100000000) := hn
 have HC : Hid (∀ i k,∃ p,i < N → k < n i → cmTN C i k i (k * 8 + 7) = zI p) := fun i k => by
  by_cases hh : i < N ∧ k < n i
  ·obtain ⟨p,hp⟩ := hC i k hh.1 hh.2
   exact ⟨p,fun _ _ => by unfold cmTN; rw [if_neg (by omega),hp]⟩
  ·exact ⟨0,fun a b => absurd ⟨a,b⟩ hh⟩
 clear ap h hn hC
 go_enter Tryz.func34,Tryz.ntmps34
 go_wp2
 go_loopw [4] (fun x wr => ∃ i : Nat,i ≤ N ∧ x = zI i ∧ P1 64 8 w wr g N V n (cmTN C i 0)) (fun x _ => N - (intOf x).toNat)
 case atStart => exact ⟨0,by omega,rfl,H1.out⟩
 case round =>
  obtain ⟨i,hiN,rfl,hp⟩ := hrel
  clear H1
  by_cases hi : i < N
  ·have hi' : (i : Int) < (N : Int) := by omega
   have hni := HN.out i hi
   obtain ⟨ao,cc,eV,hV0,_⟩ := (hp.row i hi).form
   have HP := hp.hid
   have HV : Hid (V i = .slice ao (n i) cc) := eV
   have H0 : Hid (0 < n i → ∃ b,ao = some ⟨b,0,none⟩) := hV0
   obtain ⟨m,em⟩ : ∃ m,n i = m := ⟨_,rfl⟩
   have hcell := hp.cell i hi
   rw [eV,em] at hcell
   rw [em] at hni H0
   have HM : Hid (n i = m) := em
   clear hp eV hV0 em
   go_wp2
   go_loopw [5] (fun x wr2 => ∃ k : Nat,k ≤ m ∧ x = zI k ∧ P1 64 8 w wr2 g N V n (cmTN C i k)) (fun x _ => m - (intOf x).toNat)
   case atStart => exact ⟨0,by omega,rfl,HP.out⟩
   case round =>
    obtain ⟨k,hkm,rfl,hq⟩ := hrel
    clear hcell
    have hcell := hq.cell i hi
    rw [HV.out,HM.out] at hcell
    have HQ := hq.hid
    by_cases hk : k < m
    ·have hk' : (k : Int) < (m : Int) := by omega
     obtain ⟨b,rfl⟩ := H0.out (by omega)
     have hr := hq.row i hi
     rw [HV.out,HM.out] at hr
     have z4 := hr.cell (j := k * 8 + 7) (by omega)
     have f4 := hr.frozen (k * 8 + 7)
     obtain ⟨p,hp⟩ := HC.out i k
     rw [hp hi (by rw [HM.out]; exact hk)] at z4
     have cS := spot_sp i k (by omega) (by omega)
     obtain ⟨sp,esp⟩ : ∃ sp,spI i k = sp := ⟨_,rfl⟩
     have HSP : Hid (spI i k = sp) := esp
     rw [esp] at cS
     clear hr hq hp esp
     go_wp2_with fail
     go_region_with (go_at_call 83; refine (cS _).mono ?_; rintro _ vv ⟨rfl,q⟩; obtain rfl := q.symm)
     all_goals go_wp2
     all_goals exact ⟨⟨k + 1,by omega,by go_num,(by have := (HQ.out.markTN AP.out hi (k := k) (by rw [HV.out])).drew; rwa [HSP.out] at this)⟩,by simp only [intOf]; omega⟩
    ·obtain rfl : k = m := by omega
     clear hq
     go_wp2
     refine ⟨⟨i + 1,by omega,by go_num,P1.nextTN (by rw [HM.out]; exact HQ.out)⟩,by simp only [intOf]; omega⟩
  ·obtain rfl : N = i := by omega
   have H2 := (hp.doneTN.done (le := 62) (K := 8) (A := apTN C n)).hid
   clear hp hiN hi HC
   go_wp2
   go_loopw [3,6] (fun lv x wr3 => ∃ (i : Nat) (U : Nat → Value),i ≤ N ∧ x = zI i ∧ P2 64 62 8 8 w wr3 g N V n (mkTN C) (apTN C n) i U lv) (fun _ x _ => N - (intOf x).toNat)
   case atStart => exact ⟨0,_,by omega,rfl,H2.out⟩
   case round =>
    obtain ⟨i,U,hiN,rfl,hp⟩ := hrel
    clear H2
    by_cases hi : i < N
    ·have hi' : (i : Int) < (N : Int) := by omega
     have hni := HN.out i hi
     obtain ⟨ao,cc,eV,_,_⟩ := (hp.row i (Nat.le_refl _) hi).form
     have hcell := hp.cell i hi
     rw [eV] at hcell
     have hb := hp.begin AP.out hi (fun q hq => (apTN_in hq).symm)
     rw [eV] at hb
     have HP := hb.hid
     clear hp eV hb
     go_wp2
     go_loopw [7,8] (fun X x wr4 => ∃ k : Nat,k ≤ 8 ∧ x = zI k ∧ P3 64 62 8 8 w wr4 g N V n (mkTN C) (apTN C n) i U u3 k X) (fun _ x _ => 8 - (intOf x).toNat)
     case atStart => exact ⟨0,by omega,rfl,HP.out⟩
     case round =>
      obtain ⟨k,hk8,rfl,hq⟩ := hrel
      have HQ := hq.hid
      clear hq hcell HP
      by_cases hk : k < 8
      ·have hk' : (k : Int) < 8 := by omega
       have cS := behind_bh i k (by omega) (by omega)
       go_wp2_with (first | (go_at_call 84; refine (cS _).mono ?_; rintro _ vv ⟨rfl,q⟩; obtain rfl := q.symm) | (at_builtin; refine append_markTN rfl (.tmp 52) (.tmp 57) rfl AP.out hi HQ.out rfl rfl (by omega) ?_; intro X' v' hr'; have HR := hr'.hid; clear hr'))
       exact ⟨⟨k + 1,by omega,by go_num,HR.out⟩,by simp only [intOf]; omega⟩
      ·obtain rfl : k = 8 := by omega
       obtain ⟨ax,cx,eX⟩ := HQ.out.form
       subst eX
       go_wp2_with (at_builtin; refine append_longTN rfl (.tmp 59) (.tmp 61) rfl AP.out HQ.out rfl rfl rfl (by omega) ?_; intro lv' v' hr'; have HR := hr'.hid; clear hr')
       exact ⟨⟨i + 1,_,by omega,by go_num,HR.out⟩,by simp only [intOf]; omega⟩
    ·obtain rfl : N = i := by omega
     have H3 := hp.hid
     obtain ⟨W,eW⟩ : ∃ W,W = wr := ⟨_,rfl⟩
     rw [← eW] at H3
     have HMv : Hid (Mv w W (bks N V)) := H3.out.mv
     clear hp hiN hi
     go_wp2
     rw [← eW]
     clear eW
     go_loopw [9] (fun x wz => ∃ i q : Nat,i ≤ N ∧ x = zI i ∧ wz = W.drewN q) (fun x _ => N - (intOf x).toNat)
     case atStart => exact ⟨0,0,by omega,rfl,rfl⟩
     case round =>
      obtain ⟨i,nq0,hiN,rfl,rfl⟩ := hrel
      by_cases hi : i < N
      ·have hi' : (i : Int) < (N : Int) := by omega
       have hni := HN.out i hi
       obtain ⟨gl,lc,bu,cu,e1,e2,hu,hf⟩ := H3.out.look (by decide) (by decide) hi
       have HF : Hid (∀ q,q < (n i + 8) * 8 → W.cell? ⟨bu,q,none⟩ = some (apTN C n i q)) := hf
       have hv := H3.out.cell i hi
       have HR : Hid (RdO W 8 (V i) (n i) (mkTN C i)) := H3.out.rd i hi
       obtain ⟨ao,cc,eV,h0⟩ := HFm.out i hi
       have H0 : Hid (0 < n i → ∃ b,ao = some ⟨b,0,none⟩) := h0
       have HV : Hid (V i = .slice ao (n i) cc) := eV
       rw [eV] at hv
       obtain ⟨m,em⟩ : ∃ m,n i = m := ⟨_,rfl⟩
       rw [em] at hv hni hu
       have HM : Hid (n i = m) := em
       obtain ⟨m8,em8⟩ : ∃ m8,m + 8 = m8 := ⟨_,rfl⟩
       rw [em8] at hu
       have HM8 : Hid (m + 8 = m8) := em8
       subst e1
       clear eV em hf h0 e2 em8
       go_wp2
       go_loopw [11] (fun x wz => ∃ k q : Nat,k ≤ m ∧ x = zI k ∧ wz = W.drewN q) (fun x _ => m - (intOf x).toNat)
       case atStart => exact ⟨0,nq0,by omega,rfl,rfl⟩
       case round =>
        obtain ⟨k,nq1,hkm,rfl,rfl⟩ := hrel
        by_cases hk : k < m
        ·have hk' : (k : Int) < (m : Int) := by omega
         obtain ⟨b,c',e3,hx⟩ := HR.out (k * 8 + 7) (by rw [HM.out]; omega)
         rw [HV.out] at e3
         simp at e3
         obtain ⟨rfl,rfl⟩ := e3
         have hy := HF.out (k * 8 + 7) (by rw [HM.out]; omega)
         rw [apTN_in (by rw [HM.out]; omega)] at hy
         have em : mkTN C i (k * 8 + 7) = zI (spI i k) := by unfold mkTN; rw [if_pos (by omega),show (k * 8 + 7) / 8 = k by omega]
         rw [em] at hx hy
         have cS := spot_sp i k (by omega) (by omega)
         obtain ⟨sp,esp⟩ : ∃ sp,spI i k = sp := ⟨_,rfl⟩
         rw [esp] at cS hx hy
         clear em esp
         have k8' : (k : Int) < (m8 : Int) := by have := HM8.out; omega
         obtain ⟨Y,eY⟩ : ∃ Y,W.drewN nq1 = Y := ⟨_,rfl⟩
         have hvY : Y.cell? ⟨g,i,none⟩ = some (.slice (some ⟨b,0,none⟩) m cc) := by rw [← eY]; exact hv
         have huY : Y.cell? ⟨gl,i,none⟩ = some (.slice (some ⟨bu,0,none⟩) m8 cu) := by rw [← eY]; exact hu
         have hxY : Y.cell? ⟨b,k * 8 + 7,none⟩ = some (zI sp) := by rw [← eY]; exact hx
         have hyY : Y.cell? ⟨bu,k * 8 + 7,none⟩ = some (zI sp) := by rw [← eY]; exact hy
         have EY : Hid (W.drewN nq1 = Y) := eY
         clear hv hu hx hy
         go_wp2_with fail
         clear eY
         go_quiet ((go_at_call 83; refine Calls.quiet_of_same (cS _)))
         go_wp2_with fail
         exact ⟨⟨k + 1,nq1 + nq,by omega,by go_num,by rw [← EY.out]; exact drewN_addO W nq1 nq⟩,by simp only [intOf]; omega⟩
        ·obtain rfl : m = k := by omega
         clear hk hkm
         go_wp2
         go_loopw [12] (fun x wz => ∃ k q : Nat,k ≤ 8 ∧ x = zI k ∧ wz = W.drewN q) (fun x _ => 8 - (intOf x).toNat)
         case atStart => exact ⟨0,nq1,by omega,rfl,rfl⟩
         case round =>
          obtain ⟨k,nq2,hk8,rfl,rfl⟩ := hrel
          by_cases hk : k < 8
          ·have hk' : (k : Int) < 8 := by omega
           have hy := HF.out ((n i + k) * 8 + 7) (by omega)
           rw [apTN_out,HM.out] at hy
           have cS := behind_bh i k (by omega) (by omega)
           obtain ⟨sp,esp⟩ : ∃ sp,bhI i k = sp := ⟨_,rfl⟩
           rw [esp] at cS hy
           obtain ⟨q,eq⟩ : ∃ q,m + k = q := ⟨_,rfl⟩
           rw [eq] at hy
           have eq' : (m : Int) + (k : Int) = (q : Int) := by omega
           have hq' : (q : Int) < (m8 : Int) := by have := HM8.out; omega
           have hqb : (q : Int) ≤ 9223372036854775807 := by have := HM8.out; omega
           obtain ⟨Y,eY⟩ : ∃ Y,W.drewN nq2 = Y := ⟨_,rfl⟩
           have huY : Y.cell? ⟨gl,i,none⟩ = some (.slice (some ⟨bu,0,none⟩) m8 cu) := by rw [← eY]; exact hu
           have hyY : Y.cell? ⟨bu,q * 8 + 7,none⟩ = some (zI sp) := by rw [← eY]; exact hy
           have EY : Hid (W.drewN nq2 = Y) := eY
           clear esp eq hu hy hv
           go_wp2_with fail
           clear eY
           go_quiet ((go_at_call 84; refine Calls.quiet_of_same (cS _)))
           go_wp2_with fail
           exact ⟨⟨k + 1,nq2 + nq,by omega,by go_num,by rw [← EY.out]; exact drewN_addO W nq2 nq⟩,by simp only [intOf]; omega⟩
          ·obtain rfl : k = 8 := by omega
           go_wp2
           exact ⟨⟨i + 1,_,by omega,by go_num,rfl⟩,by simp only [intOf]; omega⟩
      ·go_wp2
       go_ret
       exact ⟨rfl,below_drewMv HMv.out _⟩
end Go.Proofs.YtkfabnchhjfjjaaGreatDoor
