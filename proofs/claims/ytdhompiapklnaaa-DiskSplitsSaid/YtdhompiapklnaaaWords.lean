/-
  Words for rows of cells in memory, and the plain lemmas on them that the walks lean on. Nothing of the program is looked at here.
-/
import Derived.Below
import Derived.Laws.OwnMore
import Derived.Deep.Draws
import Derived.Laws.Rows
import Derived.Deep.AppendLies
import Derived.Deep.MidRow
import Derived.Deep.WholeRow
namespace Go.Proofs.Ytdhompiapklnaaa
open Go.RowKit

/-- Block g is just the cells cs of element type t, none frozen. -/
def Blk (w : World) (g : Nat) (t : TypeId) (cs : Array Value) : Prop := w.heap[g]? = some (.cells cs t (0, 0))

section
variable {w w' : World} {g : Nat} {t : TypeId} {cs : Array Value}
theorem Blk.lt (h : Blk w g t cs) : g < w.heap.size := by
  rcases Nat.lt_or_ge g w.heap.size with hlt | hge
  · exact hlt
  · unfold Blk at h; rw [Array.getElem?_eq_none hge] at h; cases h
theorem Blk.cell (h : Blk w g t cs) (i : Nat) : w.cell? ⟨g, i, none⟩ = cs[i]? := cell_of_row w g i cs t (0, 0) h
theorem Blk.frozen (h : Blk w g t cs) (i : Nat) : w.frozen? ⟨g, i, none⟩ = false := by
  unfold Blk at h
  simp [World.frozen?, h]
theorem Blk.new (w : World) (t : TypeId) (cs : Array Value) : Blk (w.alloc (.cells cs t)) w.heap.size t cs := heap_alloc_new w _
theorem Blk.alloc (h : Blk w g t cs) (o : Obj) : Blk (w.alloc o) g t cs := (Below.heap_alloc w o g h.lt).trans h
theorem Blk.set_ (h : Blk w g t cs) (i : Nat) (u : Value) : Blk (w.setCell ⟨g, i, none⟩ u) g t (cs.setIfInBounds i u) := by
  unfold Blk at h ⊢
  simp [World.setCell, Array.getElem?_modify, h]
theorem Blk.far (h : Blk w g t cs) {p : Addr} (hp : g ≠ p.block) (u : Value) : Blk (w.setCell p u) g t cs := (Below.heap_setCell w p u g hp).trans h
theorem Blk.below {B : Nat} (h : Blk w g t cs) (hb : Below B w w') (hg : g < B) : Blk w' g t cs := (hb.block g hg).trans h
theorem Blk.ne {g' : Nat} {t' : TypeId} {cs' : Array Value} (h : Blk w g t cs) (h' : Blk w g' t' cs') (ht : t ≠ t') : g ≠ g' := by
  rintro rfl
  unfold Blk at h h'
  rw [h] at h'
  injection h' with h'
  injection h' with _ h'
  exact ht h'
end

/-! ### Many cells stored -/
/-- A list with the cells vs laid over it from o on. -/
def lay (l : Array Value) (o : Nat) : List Value → Array Value
  | [] => l
  | v :: r => lay (l.setIfInBounds o v) (o + 1) r

theorem lay_size : ∀ (vs : List Value) (l : Array Value) (o : Nat), (lay l o vs).size = l.size
  | [], _, _ => rfl
  | v :: r, l, o => by rw [lay, lay_size r]; simp

theorem lay_get : ∀ (vs : List Value) (l : Array Value) (o j : Nat), o + vs.length ≤ l.size → (lay l o vs)[j]? = if o ≤ j ∧ j < o + vs.length then vs[j - o]? else l[j]?
  | [], l, o, j, _ => by simp [lay]; intro h1 h2; omega
  | v :: r, l, o, j, h => by
    rw [lay, lay_get r _ (o + 1) j (by simp at h ⊢; omega)]
    simp only [List.length_cons] at h ⊢
    rw [Array.getElem?_setIfInBounds]
    by_cases h1 : o + 1 ≤ j ∧ j < o + 1 + r.length
    · rw [if_pos h1, if_pos (by omega)]
      obtain ⟨k, hk⟩ : ∃ k, j - o = k + 1 := ⟨j - o - 1, by omega⟩
      rw [hk, List.getElem?_cons_succ]
      congr 1
      omega
    · rw [if_neg h1]
      by_cases h2 : o = j
      · subst h2
        rw [if_pos rfl, if_pos (by omega), if_pos (by omega)]
        simp
      · rw [if_neg h2, if_neg (by omega)]

theorem heap_setCells_same : ∀ (vs : List Value) (w : World) (g o : Nat) (cur : Array Value) (t : TypeId), w.heap[g]? = some (.cells cur t (0, 0)) →
    (w.setCells g o vs).heap[g]? = some (.cells (lay cur o vs) t (0, 0))
  | [], _, _, _, _, _, h => h
  | v :: r, w, g, o, cur, t, h => by
    rw [World.setCells, lay]
    exact heap_setCells_same r _ g (o + 1) _ t (heap_setCell_same w g o cur t v h)

theorem heap_setCells_other : ∀ (vs : List Value) (w : World) (g o k : Nat), k ≠ g → (w.setCells g o vs).heap[k]? = w.heap[k]?
  | [], _, _, _, _, _ => rfl
  | v :: r, w, g, o, k, h => by
    rw [World.setCells, heap_setCells_other r _ g (o + 1) k h]
    exact Below.heap_setCell w ⟨g, o, none⟩ v k h

theorem setCells_rest : ∀ (vs : List Value) (w : World) (g o : Nat), (w.setCells g o vs).os = w.os ∧ (w.setCells g o vs).tape = w.tape ∧ (w.setCells g o vs).output = w.output ∧ (w.setCells g o vs).heap.size = w.heap.size
  | [], _, _, _ => ⟨rfl, rfl, rfl, rfl⟩
  | v :: r, w, g, o => by
    rw [World.setCells]
    obtain ⟨h1, h2, h3, h4⟩ := setCells_rest r (w.setCell ⟨g, o, none⟩ v) g (o + 1)
    exact ⟨h1, h2, h3, by rw [h4]; simp [World.setCell]⟩

theorem Below.setCells {B : Nat} {a w : World} (h : Below B a w) {g : Nat} (hg : B ≤ g) (o : Nat) (vs : List Value) : Below B a (w.setCells g o vs) := by
  obtain ⟨h1, h2, h3, h4⟩ := setCells_rest vs w g o
  exact ⟨h1.trans h.os, h2.trans h.tape, h3.trans h.output, by rw [h4]; exact h.size, fun k hk => (heap_setCells_other vs w g o k (by omega)).trans (h.block k hk)⟩

theorem Blk.setCells {w : World} {g : Nat} {t : TypeId} {cs : Array Value} (h : Blk w g t cs) (o : Nat) (vs : List Value) : Blk (w.setCells g o vs) g t (lay cs o vs) := heap_setCells_same vs w g o cs t h
theorem Blk.setCells_far {w : World} {g k : Nat} {t : TypeId} {cs : Array Value} (h : Blk w g t cs) (hk : g ≠ k) (o : Nat) (vs : List Value) : Blk (w.setCells k o vs) g t cs := (heap_setCells_other vs w k o g hk).trans h
/-- A whole block written over. -/
theorem lay_whole (c : Array Value) (vs : List Value) (h : c.size = vs.length) : lay c 0 vs = vs.toArray := by
  apply Array.ext_getElem?
  intro j
  rw [lay_get vs c 0 j (by omega)]
  simp only [Nat.zero_le, true_and, Nat.zero_add, Nat.sub_zero, List.getElem?_toArray]
  by_cases hj : j < vs.length
  · rw [if_pos hj]
  · rw [if_neg hj, Array.getElem?_eq_none (by omega), List.getElem?_eq_none (by omega)]

/-! ### Rows of equal parts -/
/-- All parts have k cells. -/
def Parts (k : Nat) (l : List (List Value)) : Prop := ∀ b ∈ l, b.length = k

theorem Parts.len {k : Nat} : ∀ {l : List (List Value)}, Parts k l → l.flatten.length = l.length * k
  | [], _ => by simp
  | b :: l, h => by
    rw [List.flatten_cons, List.length_append, Parts.len (fun c hc => h c (List.mem_cons_of_mem _ hc)), h b List.mem_cons_self, List.length_cons, Nat.succ_mul]
    omega

theorem Parts.get {k : Nat} : ∀ {l : List (List Value)} (_ : Parts k l) (i j : Nat), i < l.length → j < k → l.flatten[i * k + j]? = (l.getD i [])[j]?
  | [], _, i, j, hi, _ => absurd hi (by simp)
  | b :: l, h, 0, j, _, hj => by
    have hb := h b List.mem_cons_self
    rw [List.flatten_cons, List.getElem?_append_left (by omega)]
    simp
  | b :: l, h, i + 1, j, hi, hj => by
    have hb := h b List.mem_cons_self
    rw [List.flatten_cons, List.getElem?_append_right (by rw [Nat.succ_mul]; omega)]
    have e : (i + 1) * k + j - b.length = i * k + j := by rw [Nat.succ_mul]; omega
    rw [e, Parts.get (fun c hc => h c (List.mem_cons_of_mem _ hc)) i j (by simpa using hi) hj]
    simp

theorem Parts.set {k : Nat} {l : List (List Value)} (h : Parts k l) (i : Nat) {b : List Value} (hb : b.length = k) : Parts k (l.set i b) := fun c hc => by
  rcases List.mem_or_eq_of_mem_set hc with hc | rfl
  · exact h c hc
  · exact hb
theorem Parts.getD {k : Nat} {l : List (List Value)} (h : Parts k l) {i : Nat} (hi : i < l.length) : (l.getD i []).length = k := by
  have e : l.getD i [] = l[i] := by simp [List.getD, hi]
  rw [e]
  exact h _ (List.getElem_mem hi)
theorem Parts.snoc {k : Nat} {l : List (List Value)} (h : Parts k l) {b : List Value} (hb : b.length = k) : Parts k (l ++ [b]) := fun c hc => by
  rcases List.mem_append.1 hc with hc | hc
  · exact h c hc
  · rw [List.mem_singleton.1 hc]; exact hb

/-! ### A slice whose elements lie in a row of their own -/
/-- The slice v of n elements of type t, k cells each, owns the parts l, in a block from base on. -/
def Own (w : World) (base : Nat) (t : TypeId) (k : Nat) (v : Value) (l : List (List Value)) : Prop := w.ownsRow base t k v l.length l.flatten ∧ Parts k l

section
variable {w w' : World} {base : Nat} {t : TypeId} {k : Nat} {v : Value} {l : List (List Value)}
/-- Nil, or where it lies. -/
theorem Own.form (h : Own w base t k v l) : (v = .slice none 0 0 ∧ l = []) ∨ ∃ g c cur, v = .slice (some ⟨g, 0, none⟩) l.length c ∧ base ≤ g ∧ Blk w g t cur ∧ l.length ≤ c ∧ c ≤ maxLen ∧ cur.size = c * k ∧ cur.toList.take (l.length * k) = l.flatten := by
  rcases h.1.2 with ⟨hv, hn⟩ | ⟨g, cap, cur, hv, hb, hh, r⟩
  · exact .inl ⟨hv, List.eq_nil_of_length_eq_zero hn⟩
  · exact .inr ⟨g, cap, cur, hv, hb, hh, r⟩
theorem Own.val (h : Own w base t k v l) : ∃ A c, v = .slice A l.length c := by
  rcases h.form with ⟨rfl, rfl⟩ | ⟨g, c, cur, rfl, _⟩
  · exact ⟨none, 0, rfl⟩
  · exact ⟨_, _, rfl⟩
theorem Own.nil (w : World) (base : Nat) (t : TypeId) (k : Nat) : Own w base t k (.slice none 0 0) [] := ⟨World.ownsRow_nil w base t k, fun _ hb => by cases hb⟩
/-- It is kept where its block is. -/
theorem Own.keep (h : Own w base t k v l) (hk : ∀ g cur, base ≤ g → v.ownBlock = some g → Blk w g t cur → w'.heap[g]? = w.heap[g]?) : Own w' base t k v l := by
  refine ⟨⟨h.1.1, ?_⟩, h.2⟩
  rcases h.1.2 with hv | ⟨g, cap, cur, rfl, hb, hh, r⟩
  · exact .inl hv
  · exact .inr ⟨g, cap, cur, rfl, hb, (hk g cur hb rfl hh).trans hh, r⟩
theorem Own.down (h : Own w base t k v l) {base' : Nat} (hb : base' ≤ base) : Own w base' t k v l := by
  refine ⟨⟨h.1.1, ?_⟩, h.2⟩
  rcases h.1.2 with hv | ⟨g, cap, cur, hv, hbs, r⟩
  · exact .inl hv
  · exact .inr ⟨g, cap, cur, hv, by omega, r⟩
theorem Own.alloc (h : Own w base t k v l) (o : Obj) : Own (w.alloc o) base t k v l := h.keep fun g _ _ _ hb => Below.heap_alloc w o g hb.lt
theorem Own.below (h : Own w base t k v l) (hb : Below w.heap.size w w') : Own w' base t k v l := h.keep fun g _ _ _ hg => hb.block g hg.lt
/-- The cells of a part. -/
theorem Own.range (h : Own w base t k v l) {g : Nat} (hv : v.ownBlock = some g) {i : Nat} (hi : i < l.length) : w.rangeAt g (i * k) (l.getD i []) := by
  intro j u hj
  rcases h.form with ⟨rfl, _⟩ | ⟨g', c, cur, rfl, _, hb, _, _, hs, ht⟩
  · cases hv
  · obtain rfl : g' = g := by injection hv
    rw [hb.cell]
    have hjk : j < k := by
      have := (List.getElem?_eq_some_iff.1 hj).1
      rw [h.2.getD hi] at this
      exact this
    have e := h.2.get i j hi hjk
    have hlt : i * k + j < l.length * k := by
      have : (i + 1) * k ≤ l.length * k := Nat.mul_le_mul_right k hi
      rw [Nat.succ_mul] at this
      omega
    rw [← ht, List.getElem?_take, if_pos hlt, hj] at e
    simpa using e
theorem Own.there (h : Own w base t k v l) {g : Nat} (hv : v.ownBlock = some g) {i : Nat} (hi : i < l.length) : w.there g (i * k) k := by
  intro j hj
  have hr := h.range hv hi
  rcases h.form with ⟨rfl, _⟩ | ⟨g', c, cur, rfl, _, hb, _, _, hs, ht⟩
  · cases hv
  · obtain rfl : g' = g := by injection hv
    refine ⟨?_, hb.frozen _⟩
    have hl : j < (l.getD i []).length := by rw [h.2.getD hi]; exact hj
    rw [hr j _ (List.getElem?_eq_getElem hl)]
    rfl
/-- A part is stored. -/
theorem Own.store (h : Own w base t k v l) {g : Nat} (hv : v.ownBlock = some g) {i : Nat} (hi : i < l.length) {b : List Value} (hb : b.length = k) : Own (w.setCells g (i * k) b) base t k v (l.set i b) := by
  have hlt : i * k + k ≤ l.length * k := by
    have : (i + 1) * k ≤ l.length * k := Nat.mul_le_mul_right k hi
    rw [Nat.succ_mul] at this
    omega
  have hp := h.2.set i hb
  refine ⟨⟨?_, ?_⟩, hp⟩
  · rw [hp.len]
  · rcases h.form with ⟨rfl, _⟩ | ⟨g', c, cur, rfl, hbase, hbl, hc1, hc2, hs, ht⟩
    · cases hv
    · obtain rfl : g' = g := by injection hv
      have hlc : l.length * k ≤ c * k := Nat.mul_le_mul_right k hc1
      refine .inr ⟨g', c, lay cur (i * k) b, by rw [List.length_set], hbase, hbl.setCells _ _, by rw [List.length_set]; exact hc1, hc2, by rw [lay_size]; exact hs, ?_⟩
      rw [List.length_set]
      apply List.ext_getElem?
      intro m
      rw [List.getElem?_take]
      by_cases hm : m < l.length * k
      · rw [if_pos hm, Array.getElem?_toList, lay_get b cur (i * k) m (by omega), hb]
        have hk0 : 0 < k := by
          rcases Nat.eq_zero_or_pos k with h0 | h0
          · subst h0; simp at hm
          · exact h0
        have hdiv : m / k < l.length := Nat.div_lt_of_lt_mul (by rw [Nat.mul_comm]; exact hm)
        have hmod : m % k < k := Nat.mod_lt _ hk0
        have hmeq : m / k * k + m % k = m := by rw [Nat.mul_comm]; exact Nat.div_add_mod m k
        have e1 := hp.get (m / k) (m % k) (by rw [List.length_set]; exact hdiv) hmod
        have e2 := h.2.get (m / k) (m % k) hdiv hmod
        rw [hmeq] at e1 e2
        rw [← ht, List.getElem?_take, if_pos hm, Array.getElem?_toList] at e2
        rw [e1]
        by_cases hin : i * k ≤ m ∧ m < i * k + k
        · have hq : m / k = i := by
            apply Nat.div_eq_of_lt_le
            · exact hin.1
            · rw [Nat.succ_mul]; exact hin.2
          rw [if_pos hin, hq]
          have : (l.set i b).getD i [] = b := by simp [List.getD, hi]
          rw [this]
          congr 1
          rw [hq] at hmeq
          omega
        · rw [if_neg hin, e2]
          have hq : i ≠ m / k := by
            rintro rfl
            exact hin ⟨by omega, by omega⟩
          have : (l.set i b).getD (m / k) [] = l.getD (m / k) [] := by simp [List.getD, hq]
          rw [this]
      · rw [if_neg hm, List.getElem?_eq_none (by rw [hp.len, List.length_set]; omega)]
end

theorem ret_int {k : IntKind} {a b : Int} (h : a = b) : Ending.returned (.int k a) = .returned (.int k b) := by rw [h]
theorem ret_bool {a b : Bool} (h : a = b) : Ending.returned (.bool a) = .returned (.bool b) := by rw [h]

end Go.Proofs.Ytdhompiapklnaaa
