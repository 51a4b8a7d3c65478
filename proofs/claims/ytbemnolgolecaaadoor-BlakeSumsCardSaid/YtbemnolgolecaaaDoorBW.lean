/-
  Words for rows of cells in memory (out of disk's texts).
-/
import Derived.Test.YtbemnolgolecaaaDoorClone
import Derived.Test.YtbemnolgolecaaaDoorB0
import Derived.Deep.MidRow
import Derived.Deep.WholeRow
import Derived.Deep.RegionHeld3
import Derived.Deep.DrawnRows
namespace Go.Proofs.YtbemnolgolecaaaDoor
open Go.RowKit

section
variable {w w' : World} {g : Nat} {t : TypeId} {cs : Array Value}
theorem Blk.ne {g' : Nat} {t' : TypeId} {cs' : Array Value} (h : Blk w g t cs) (h' : Blk w g' t' cs') (ht : t ≠ t') : g ≠ g' := by
  rintro rfl
  unfold Blk at h h'
  rw [h] at h'
  injection h' with h'
  injection h' with _ h'
  exact ht h'
end

/-- A list with the cells vs laid over it from o on. -/
def lay (l : Array Value) (o : Nat) : List Value → Array Value
  | [] => l
  | v :: r => lay (l.setIfInBounds o v) (o + 1) r

theorem lay_size : ∀ (vs : List Value) (l : Array Value) (o : Nat), (lay l o vs).size = l.size
  | [], _, _ => rfl
  | v :: r, l, o => by rw [lay, lay_size r]; simp

theorem lay_get : ∀ (vs : List Value) (l : Array Value) (o j : Nat), o + vs.length ≤ l.size → (lay l o vs)[j]? = if o ≤ j ∧ j < o + vs.length then vs[j - o]? else l[j]?
  | [], l, o, j, _ => by simp [lay]; intro h1 h2; omega
  | v :: r, l, o, j, h => by
    rw [lay, lay_get r _ (o + 1) j (by simp at h ⊢; omega)]
    simp only [List.length_cons] at h ⊢
    rw [Array.getElem?_setIfInBounds]
    by_cases h1 : o + 1 ≤ j ∧ j < o + 1 + r.length
    · rw [if_pos h1, if_pos (by omega)]
      obtain ⟨k, hk⟩ : ∃ k, j - o = k + 1 := ⟨j - o - 1, by omega⟩
      rw [hk, List.getElem?_cons_succ]
      congr 1
      omega
    · rw [if_neg h1]
      by_cases h2 : o = j
      · subst h2
        rw [if_pos rfl, if_pos (by omega), if_pos (by omega)]
        simp
      · rw [if_neg h2, if_neg (by omega)]

theorem heap_setCells_same : ∀ (vs : List Value) (w : World) (g o : Nat) (cur : Array Value) (t : TypeId), w.heap[g]? = some (.cells cur t (0, 0)) →
    (w.setCells g o vs).heap[g]? = some (.cells (lay cur o vs) t (0, 0))
  | [], _, _, _, _, _, h => h
  | v :: r, w, g, o, cur, t, h => by
    rw [World.setCells, lay]
    exact heap_setCells_same r _ g (o + 1) _ t (heap_setCell_same w g o cur t v h)

theorem heap_setCells_other : ∀ (vs : List Value) (w : World) (g o k : Nat), k ≠ g → (w.setCells g o vs).heap[k]? = w.heap[k]?
  | [], _, _, _, _, _ => rfl
  | v :: r, w, g, o, k, h => by
    rw [World.setCells, heap_setCells_other r _ g (o + 1) k h]
    exact Below.heap_setCell w ⟨g, o, none⟩ v k h

theorem setCells_rest : ∀ (vs : List Value) (w : World) (g o : Nat), (w.setCells g o vs).os = w.os ∧ (w.setCells g o vs).tape = w.tape ∧ (w.setCells g o vs).output = w.output ∧ (w.setCells g o vs).heap.size = w.heap.size
  | [], _, _, _ => ⟨rfl, rfl, rfl, rfl⟩
  | v :: r, w, g, o => by
    rw [World.setCells]
    obtain ⟨h1, h2, h3, h4⟩ := setCells_rest r (w.setCell ⟨g, o, none⟩ v) g (o + 1)
    exact ⟨h1, h2, h3, by rw [h4]; simp [World.setCell]⟩

theorem Below.setCells {B : Nat} {a w : World} (h : Below B a w) {g : Nat} (hg : B ≤ g) (o : Nat) (vs : List Value) : Below B a (w.setCells g o vs) := by
  obtain ⟨h1, h2, h3, h4⟩ := setCells_rest vs w g o
  exact ⟨h1.trans h.os, h2.trans h.tape, h3.trans h.output, by rw [h4]; exact h.size, fun k hk => (heap_setCells_other vs w g o k (by omega)).trans (h.block k hk)⟩

theorem Blk.setCells {w : World} {g : Nat} {t : TypeId} {cs : Array Value} (h : Blk w g t cs) (o : Nat) (vs : List Value) : Blk (w.setCells g o vs) g t (lay cs o vs) := heap_setCells_same vs w g o cs t h
theorem Blk.setCells_far {w : World} {g k : Nat} {t : TypeId} {cs : Array Value} (h : Blk w g t cs) (hk : g ≠ k) (o : Nat) (vs : List Value) : Blk (w.setCells k o vs) g t cs := (heap_setCells_other vs w k o g hk).trans h
/-- A whole block written over. -/
theorem lay_whole (c : Array Value) (vs : List Value) (h : c.size = vs.length) : lay c 0 vs = vs.toArray := by
  apply Array.ext_getElem?
  intro j
  rw [lay_get vs c 0 j (by omega)]
  simp only [Nat.zero_le, true_and, Nat.zero_add, Nat.sub_zero, List.getElem?_toArray]
  by_cases hj : j < vs.length
  · rw [if_pos hj]
  · rw [if_neg hj, Array.getElem?_eq_none (by omega), List.getElem?_eq_none (by omega)]

/-! ### Rows of equal parts -/
/-- All parts have k cells. -/
def Parts (k : Nat) (l : List (List Value)) : Prop := ∀ b ∈ l, b.length = k

theorem Parts.len {k : Nat} : ∀ {l : List (List Value)}, Parts k l → l.flatten.length = l.length * k
  | [], _ => by simp
  | b :: l, h => by
    rw [List.flatten_cons, List.length_append, Parts.len (fun c hc => h c (List.mem_cons_of_mem _ hc)), h b List.mem_cons_self, List.length_cons, Nat.succ_mul]
    omega

theorem Parts.get {k : Nat} : ∀ {l : List (List Value)} (_ : Parts k l) (i j : Nat), i < l.length → j < k → l.flatten[i * k + j]? = (l.getD i [])[j]?
  | [], _, i, j, hi, _ => absurd hi (by simp)
  | b :: l, h, 0, j, _, hj => by
    have hb := h b List.mem_cons_self
    rw [List.flatten_cons, List.getElem?_append_left (by omega)]
    simp
  | b :: l, h, i + 1, j, hi, hj => by
    have hb := h b List.mem_cons_self
    rw [List.flatten_cons, List.getElem?_append_right (by rw [Nat.succ_mul]; omega)]
    have e : (i + 1) * k + j - b.length = i * k + j := by rw [Nat.succ_mul]; omega
    rw [e, Parts.get (fun c hc => h c (List.mem_cons_of_mem _ hc)) i j (by simpa using hi) hj]
    simp

theorem Parts.set {k : Nat} {l : List (List Value)} (h : Parts k l) (i : Nat) {b : List Value} (hb : b.length = k) : Parts k (l.set i b) := fun c hc => by
  rcases List.mem_or_eq_of_mem_set hc with hc | rfl
  · exact h c hc
  · exact hb
theorem Parts.getD {k : Nat} {l : List (List Value)} (h : Parts k l) {i : Nat} (hi : i < l.length) : (l.getD i []).length = k := by
  have e : l.getD i [] = l[i] := by simp [List.getD, hi]
  rw [e]
  exact h _ (List.getElem_mem hi)
theorem Parts.snoc {k : Nat} {l : List (List Value)} (h : Parts k l) {b : List Value} (hb : b.length = k) : Parts k (l ++ [b]) := fun c hc => by
  rcases List.mem_append.1 hc with hc | hc
  · exact h c hc
  · rw [List.mem_singleton.1 hc]; exact hb


end Go.Proofs.YtbemnolgolecaaaDoor
