/-
  Entries in memory: rows of them, read and owned.
-/
import Derived.Test.YtmgaihdepglahaaBys
import Derived.Test.YtmgaihdepglahaaVW
import Derived.Test.YtmgaihdepglahaaP0
namespace Go.Proofs.Ytmgaihdepglahaa
open Go.RowKit

theorem add_at (b o i : Nat) : (⟨b, o, none⟩ : Addr).add i = ⟨b, o + i, none⟩ := by by_cases h0 : i = 0 <;> simp [Addr.add, h0]
/-- An entry as it lies in memory. -/
structure Ec where
  t : Int
  k : Int
  A : Option Addr
  n : Nat
  c : Nat
  d : List Int
def Ec.en (x : Ec) : En := ⟨x.t, x.k, x.d⟩
def Ec.cs (x : Ec) : List Value := [.int .u64 x.t, .int .i64 x.k, .slice x.A x.n x.c]
theorem Ec.cs_len (x : Ec) : x.cs.length = 3 := rfl
theorem Ec.one (x : Ec) : ∀ v ∈ x.cs, v.oneCell' = true := by simp [Ec.cs, Value.oneCell']
def rowE : List Ec → List Value
  | [] => []
  | x :: r => x.cs ++ rowE r
theorem rowE_len : ∀ xs : List Ec, (rowE xs).length = xs.length * 3
  | [] => rfl
  | x :: r => by
    rw [rowE, List.length_append, rowE_len r, Ec.cs_len, List.length_cons]
    omega
theorem rowE_append : ∀ xs ys : List Ec, rowE (xs ++ ys) = rowE xs ++ rowE ys
  | [], _ => rfl
  | x :: r, ys => by rw [List.cons_append, rowE, rowE_append r ys, rowE, List.append_assoc]
theorem rowE_at : ∀ (xs : List Ec) (j i : Nat) (x : Ec), xs[j]? = some x → i < 3 → (rowE xs)[j * 3 + i]? = x.cs[i]?
  | [], j, _, _, h, _ => by simp at h
  | y :: r, 0, i, x, h, hi => by
    rw [List.getElem?_cons_zero, Option.some.injEq] at h
    subst h
    rw [rowE, Nat.zero_mul, Nat.zero_add, List.getElem?_append_left (by rw [Ec.cs_len]; exact hi)]
  | y :: r, j + 1, i, x, h, hi => by
    rw [List.getElem?_cons_succ] at h
    rw [rowE, List.getElem?_append_right (by rw [Ec.cs_len]; omega), Ec.cs_len, show (j + 1) * 3 + i - 3 = j * 3 + i by omega]
    exact rowE_at r j i x h hi
theorem rowE_one : ∀ xs : List Ec, ∀ v ∈ rowE xs, v.oneCell' = true
  | [], v, h => by cases h
  | x :: r, v, h => by
    rw [rowE] at h
    rcases List.mem_append.1 h with h | h
    · exact x.one v h
    · exact rowE_one r v h
theorem rowE_drop : ∀ (k : Nat) (xs : List Ec), (rowE xs).drop (k * 3) = rowE (xs.drop k)
  | 0, xs => by simp
  | k + 1, [] => by simp [rowE]
  | k + 1, x :: r => by
    rw [rowE, List.drop_succ_cons, ← rowE_drop k r, List.drop_append, Ec.cs_len, List.drop_eq_nil_of_le (by rw [Ec.cs_len]; omega), List.nil_append, show (k + 1) * 3 - 3 = k * 3 by omega]
theorem rowE_take : ∀ (k : Nat) (xs : List Ec), (rowE xs).take (k * 3) = rowE (xs.take k)
  | 0, xs => by simp [rowE]
  | k + 1, [] => by simp [rowE]
  | k + 1, x :: r => by
    rw [rowE, List.take_succ_cons, rowE, ← rowE_take k r, List.take_append, Ec.cs_len, List.take_of_length_le (by rw [Ec.cs_len]; omega), show (k + 1) * 3 - 3 = k * 3 by omega]

/-- Its Data lie below block B. -/
structure Ec.ok (w : World) (B : Nat) (x : Ec) : Prop where
  by_ : By w B x.A x.n x.d
  nc : x.n ≤ x.c
  nil : x.A = none → x.c = 0
  n : x.n ≤ 100000
  t0 : 0 ≤ x.t
  t1 : x.t < 18446744073709551616
section
variable {w w' : World} {B B' n c : Nat} {A : Option Addr} {x : Ec} {es : List En}
theorem Ec.ok.below (h : x.ok w B) (hb : Below B w w') : x.ok w' B := ⟨h.by_.below hb, h.nc, h.nil, h.n, h.t0, h.t1⟩
theorem Ec.ok.more (h : x.ok w B) (hb : B ≤ B') : x.ok w B' := ⟨h.by_.more hb, h.nc, h.nil, h.n, h.t0, h.t1⟩
theorem Ec.ok.alloc (h : x.ok w B) (hB : B ≤ w.heap.size) (o : Obj) : x.ok (w.alloc o) B := ⟨h.by_.alloc hB o, h.nc, h.nil, h.n, h.t0, h.t1⟩

/-- The slice '.slice A n _' holds these entries, below block B. -/
def Es (w : World) (B : Nat) (A : Option Addr) (n : Nat) (es : List En) : Prop :=
  ∃ xs : List Ec, xs.map Ec.en = es ∧ xs.length = n ∧ (∀ x ∈ xs, x.ok w B) ∧ (0 < n → ∃ b o, A = some ⟨b, o, none⟩ ∧ b < B ∧ w.rangeAt b o (rowE xs))
theorem Es.len (h : Es w B A n es) : es.length = n := by
  obtain ⟨xs, rfl, rfl, _⟩ := h
  simp
theorem Es.none_ : Es w B A 0 [] := ⟨[], rfl, rfl, fun x hx => (by cases hx), fun h => absurd h (by omega)⟩
theorem Es.keep (h : Es w B A n es) (hk : ∀ p : Addr, p.block < B → w'.cell? p = w.cell? p) : Es w' B A n es := by
  obtain ⟨xs, h1, h2, h3, h4⟩ := h
  refine ⟨xs, h1, h2, fun x hx => ?_, fun hn => ?_⟩
  · have := h3 x hx
    exact ⟨this.by_.keep hk, this.nc, this.nil, this.n, this.t0, this.t1⟩
  · obtain ⟨b, o, e, hb, hc⟩ := h4 hn
    exact ⟨b, o, e, hb, fun j v hj => (hk ⟨b, o + j, none⟩ hb).trans (hc j v hj)⟩
theorem Es.below (h : Es w B A n es) (hb : Below B w w') : Es w' B A n es := h.keep fun _ hp => hb.cell hp
theorem Es.more (h : Es w B A n es) (hB : B ≤ B') : Es w B' A n es := by
  obtain ⟨xs, h1, h2, h3, h4⟩ := h
  refine ⟨xs, h1, h2, fun x hx => (h3 x hx).more hB, fun hn => ?_⟩
  obtain ⟨b, o, e, hb, hc⟩ := h4 hn
  exact ⟨b, o, e, by omega, hc⟩
theorem Es.alloc (h : Es w B A n es) (hB : B ≤ w.heap.size) (o : Obj) : Es (w.alloc o) B A n es := h.keep fun p hp => World.cell?_alloc_lt w o p (by omega)
theorem Es.drew (h : Es w B A n es) : Es w.drew B A n es := h.keep fun _ _ => rfl
theorem Es.drewN (h : Es w B A n es) (k : Nat) : Es (w.drewN k) B A n es := h.keep fun _ _ => rfl
theorem Es.setCell (h : Es w B A n es) {p : Addr} (hB : B ≤ p.block) (u : Value) : Es (w.setCell p u) B A n es :=
  h.keep fun q hq => World.cell?_setCell_other w p q u (fun e => by subst e; omega)
/-- What lies at place j. -/
theorem Es.at_ (h : Es w B A n es) {j : Nat} (hj : j < n) : ∃ b o x, A = some ⟨b, o, none⟩ ∧ b < B ∧ Ec.en x = es.getD j e0 ∧ x.ok w B ∧ w.rangeAt b (o + j * 3) x.cs := by
  obtain ⟨xs, h1, h2, h3, h4⟩ := h
  obtain ⟨b, o, e, hb, hc⟩ := h4 (by omega)
  have hx : xs[j]? = some (xs[j]'(by omega)) := List.getElem?_eq_getElem (by omega)
  refine ⟨b, o, xs[j]'(by omega), e, hb, ?_, h3 _ (List.getElem_mem _), fun i v hi => ?_⟩
  · subst h1
    simp [List.getD, hx]
  · have hi3 : i < 3 := (List.getElem?_eq_some_iff.1 hi).1
    rw [Nat.add_assoc]
    exact hc _ _ ((rowE_at xs j i _ hx hi3).trans hi)
/-- A part of the entries. -/
theorem Es.cut (h : Es w B A n es) {k m : Nat} (hm : m ≤ n - k) (hk : k ≤ n) (hc : n ≤ c) : Es w B (if c = k then A else A.map (·.add (k * 3))) m ((es.drop k).take m) := by
  obtain ⟨xs, h1, h2, h3, h4⟩ := h
  refine ⟨(xs.drop k).take m, ?_, ?_, fun x hx => h3 x (List.mem_of_mem_drop (List.mem_of_mem_take hx)), fun hp => ?_⟩
  · rw [← h1, List.map_take, List.map_drop]
  · rw [List.length_take, List.length_drop]
    omega
  · obtain ⟨b, o, rfl, hb, hcell⟩ := h4 (by omega)
    rw [if_neg (by omega)]
    refine ⟨b, o + k * 3, ?_, hb, fun j v hj => ?_⟩
    · by_cases h0 : k = 0
      · simp [Addr.add, h0]
      · have : ¬ k * 3 = 0 := by omega
        exact congrArg some (if_neg this)
    · rw [Nat.add_assoc]
      refine hcell _ _ ?_
      rw [← rowE_take, ← rowE_drop, List.getElem?_take] at hj
      split at hj
      · rw [List.getElem?_drop] at hj
        exact hj
      · cases hj
theorem Es.take (h : Es w B A n es) {m : Nat} (hm : m ≤ n) : Es w B A m (es.take m) := by
  have := h.cut (k := 0) (c := n + 1) (m := m) (by omega) (Nat.zero_le _) (by omega)
  rw [if_neg (by omega), List.drop_zero] at this
  have e : A.map (·.add (0 * 3)) = A := by cases A <;> simp [Addr.add]
  rw [e] at this
  exact this

/-- The slice owns its entries, and their Data, in blocks from base on. -/
def Eo (w : World) (base : Nat) (A : Option Addr) (n c : Nat) (es : List En) : Prop :=
  ∃ xs : List Ec, xs.map Ec.en = es ∧ w.ownsRow base 54 3 (.slice A n c) n (rowE xs) ∧ ∀ x ∈ xs, Own w base x.A x.n x.c x.d ∧ x.n ≤ 100000 ∧ 0 ≤ x.t ∧ x.t < 18446744073709551616
theorem Eo.len {base : Nat} (h : Eo w base A n c es) : es.length = n := by
  obtain ⟨xs, rfl, h2, _⟩ := h
  have := h2.1
  rw [rowE_len] at this
  simp
  omega
theorem Eo.form {base : Nat} (h : Eo w base A n c es) : (A = none ∧ n = 0 ∧ c = 0) ∨ ∃ g, A = some ⟨g, 0, none⟩ ∧ base ≤ g ∧ g < w.heap.size ∧ n ≤ c := by
  obtain ⟨xs, _, h, _⟩ := h
  rcases h.2 with ⟨hv, hn⟩ | ⟨g, cap, cur, hv, hb, hh, hnc, _⟩
  · injection hv with h1 h2 h3
    exact .inl ⟨h1, hn, h3⟩
  · injection hv with h1 h2 h3
    exact .inr ⟨g, h1, hb, Blk.lt (t := 54) hh, by omega⟩
theorem Eo.cap {base : Nat} (h : Eo w base A n c es) : n ≤ c := by
  rcases h.form with ⟨_, h1, h2⟩ | ⟨g, _, _, _, h1⟩ <;> omega
theorem Eo.nil {base : Nat} (h : Eo w base A n c es) (hA : A = none) : c = 0 := by
  rcases h.form with ⟨_, _, h2⟩ | ⟨g, h1, _⟩
  · exact h2
  · rw [hA] at h1; cases h1
theorem Eo.read {base : Nat} (h : Eo w base A n c es) : Es w w.heap.size A n es := by
  have hf := h.form
  obtain ⟨xs, h1, h2, h3⟩ := h
  refine ⟨xs, h1, ?_, fun x hx => ?_, fun hn => ?_⟩
  · have := h2.1
    rw [rowE_len] at this
    omega
  · obtain ⟨ho, hn, ht0, ht1⟩ := h3 x hx
    exact ⟨ho.by, ho.cap, ho.nil, hn, ht0, ht1⟩
  · rcases hf with ⟨_, h0, _⟩ | ⟨g, rfl, _, hlt, _⟩
    · omega
    · refine ⟨g, 0, rfl, hlt, fun j v hj => ?_⟩
      rw [Nat.zero_add, h2.cellAt j (by rw [← h2.1]; exact (List.getElem?_eq_some_iff.1 hj).1)]
      exact hj
theorem World.ownsRow.below {base e size n : Nat} {v : Value} {xs : List Value} (h : w.ownsRow base e size v n xs) (hb : Below w.heap.size w w') : w'.ownsRow base e size v n xs := by
  refine ⟨h.1, ?_⟩
  rcases h.2 with hv | ⟨g, cap, cur, hv, hbs, hh, r⟩
  · exact .inl hv
  · exact .inr ⟨g, cap, cur, hv, hbs, (hb.block g (Blk.lt (t := e) hh)).trans hh, r⟩
theorem World.ownsRow.down {base base' e size n : Nat} {v : Value} {xs : List Value} (h : w.ownsRow base e size v n xs) (hb : base' ≤ base) : w.ownsRow base' e size v n xs := by
  refine ⟨h.1, ?_⟩
  rcases h.2 with hv | ⟨g, cap, cur, hv, hbs, r⟩
  · exact .inl hv
  · exact .inr ⟨g, cap, cur, hv, by omega, r⟩
theorem Eo.below {base : Nat} (h : Eo w base A n c es) (hb : Below w.heap.size w w') : Eo w' base A n c es := by
  obtain ⟨xs, h1, h2, h3⟩ := h
  exact ⟨xs, h1, World.ownsRow.below h2 hb, fun x hx => ⟨(h3 x hx).1.below hb, (h3 x hx).2⟩⟩
theorem Eo.down {base base' : Nat} (h : Eo w base A n c es) (hb : base' ≤ base) : Eo w base' A n c es := by
  obtain ⟨xs, h1, h2, h3⟩ := h
  exact ⟨xs, h1, World.ownsRow.down h2 hb, fun x hx => ⟨(h3 x hx).1.down hb, (h3 x hx).2⟩⟩
theorem Eo.nothing (w : World) (base : Nat) : Eo w base none 0 0 [] := ⟨[], rfl, World.ownsRow_nil _ _ _ _, fun x hx => by cases hx⟩
end

theorem Try.i54 : (Try.prog.info? 54).map (·.size) = some 3 := by kernel_rfl
theorem Try.i24 : (Try.prog.info? 24).map (·.size) = some 2 := by kernel_rfl
theorem Try.i27 : (Try.prog.info? 27).map (·.size) = some 3 := by kernel_rfl
theorem Try.i81 : (Try.prog.info? 81).map (·.size) = some 3 := by kernel_rfl

end Go.Proofs.Ytmgaihdepglahaa
