/-
  Plain words on members: sets of bits, their rows; what is told of them. Nothing of the program is looked at here.
-/
import Derived.Below
namespace Go.Proofs.YtfclppopelmdgaaDoor
open Go.RowKit

/-- Which numbers are in a set of bits, from which of five it is. -/
def bts (a b c d e : Bool) : Nat := a.toNat + 2 * b.toNat + 4 * c.toNat + 8 * d.toNat + 16 * e.toNat
def inG (G : Nat) (m : Int) : Bool := decide (1 ≤ m) && (decide (m ≤ 5) && decide (G / 2 ^ (m - 1).toNat % 2 = 1))
def row (G : Nat) : List Int := [1, 2, 3, 4, 5].filter (inG G)
def pop (G : Nat) : Nat := (row G).length
/-- The set of one number. -/
def alo (n : Int) : Nat := if n = 1 then 1 else if n = 2 then 2 else if n = 3 then 4 else if n = 4 then 8 else if n = 5 then 16 else 0
/-- The set of those among numbers. -/
def amg (xs : List Int) : Nat := bts (xs.contains 1) (xs.contains 2) (xs.contains 3) (xs.contains 4) (xs.contains 5)
def grp (xs : List Int) : Nat := if xs = row (amg xs) then amg xs else 0

theorem bts_lt : ∀ a b c d e : Bool, bts a b c d e < 32 := by decide
theorem amg_lt (xs : List Int) : amg xs < 32 := bts_lt _ _ _ _ _
theorem grp_lt (xs : List Int) : grp xs < 32 := by
  unfold grp
  split
  · exact amg_lt xs
  · omega
theorem alo_cases (n : Int) : (n = 1 ∧ alo n = 1) ∨ (n = 2 ∧ alo n = 2) ∨ (n = 3 ∧ alo n = 4) ∨ (n = 4 ∧ alo n = 8) ∨ (n = 5 ∧ alo n = 16) ∨ ((n < 1 ∨ 5 < n) ∧ alo n = 0) := by
  unfold alo
  by_cases h1 : n = 1
  · simp [h1]
  by_cases h2 : n = 2
  · simp [h2]
  by_cases h3 : n = 3
  · simp [h3]
  by_cases h4 : n = 4
  · simp [h4]
  by_cases h5 : n = 5
  · simp [h5]
  simp [h1, h2, h3, h4, h5]
  omega
theorem inG_bts : ∀ a b c d e : Bool, inG (bts a b c d e) 1 = a ∧ inG (bts a b c d e) 2 = b ∧ inG (bts a b c d e) 3 = c ∧ inG (bts a b c d e) 4 = d ∧ inG (bts a b c d e) 5 = e := by decide
theorem five {m : Int} (h1 : 1 ≤ m) (h5 : m ≤ 5) : m = 1 ∨ m = 2 ∨ m = 3 ∨ m = 4 ∨ m = 5 := by omega
theorem inG_range {G : Nat} {m : Int} (h : inG G m = true) : 1 ≤ m ∧ m ≤ 5 := by
  unfold inG at h
  simp only [Bool.and_eq_true, decide_eq_true_eq] at h
  exact ⟨h.1, h.2.1⟩
theorem inG_amg (xs : List Int) (m : Int) : inG (amg xs) m = (decide (1 ≤ m) && (decide (m ≤ 5) && xs.contains m)) := by
  by_cases h1 : 1 ≤ m
  · by_cases h5 : m ≤ 5
    · have hb := inG_bts (xs.contains 1) (xs.contains 2) (xs.contains 3) (xs.contains 4) (xs.contains 5)
      rw [decide_eq_true h1, decide_eq_true h5, Bool.true_and, Bool.true_and]
      unfold amg
      rcases five h1 h5 with rfl | rfl | rfl | rfl | rfl
      · exact hb.1
      · exact hb.2.1
      · exact hb.2.2.1
      · exact hb.2.2.2.1
      · exact hb.2.2.2.2
    · unfold inG; simp [h5]
  · unfold inG; simp [h1]
theorem mem_row {G : Nat} {m : Int} : m ∈ row G ↔ inG G m = true := by
  unfold row
  rw [List.mem_filter]
  constructor
  · exact fun h => h.2
  · intro h
    obtain ⟨h1, h5⟩ := inG_range h
    refine ⟨?_, h⟩
    rcases five h1 h5 with rfl | rfl | rfl | rfl | rfl <;> simp
theorem amg_row : ∀ G : Fin 32, amg (row G.val) = G.val := by decide +kernel
theorem row_amg (G : Nat) (h : G < 32) : amg (row G) = G := amg_row ⟨G, h⟩
theorem grp_row (G : Nat) (h : G < 32) : grp (row G) = G := by
  unfold grp
  rw [row_amg G h, if_pos rfl]
theorem of_grp {xs : List Int} (h : grp xs ≠ 0) : xs = row (grp xs) := by
  by_cases h1 : xs = row (amg xs)
  · have : grp xs = amg xs := by unfold grp; rw [if_pos h1]
    rw [this]
    exact h1
  · have : grp xs = 0 := by unfold grp; rw [if_neg h1]
    exact absurd this h
theorem row_zero : row 0 = [] := by decide
theorem pop_pos : ∀ G : Fin 32, (pop G.val = 0 ↔ G.val = 0) := by decide +kernel
theorem pop_le (G : Nat) : pop G ≤ 5 := Nat.le_trans (List.length_filter_le _ _) (by simp)
theorem amg_nil : amg [] = 0 := by decide
/-- Numbers that stand ahead, and one more. -/
theorem amg_snoc (xs : List Int) (n : Int) : amg (xs ++ [n]) = bts (xs.contains 1 || n == 1) (xs.contains 2 || n == 2) (xs.contains 3 || n == 3) (xs.contains 4 || n == 4) (xs.contains 5 || n == 5) := by
  unfold amg
  have : ∀ k : Int, (xs ++ [n]).contains k = (xs.contains k || n == k) := fun k => by
    rw [Bool.eq_iff_iff, List.contains_iff_mem, List.mem_append, List.mem_singleton, Bool.or_eq_true, List.contains_iff_mem, beq_iff_eq]
    exact ⟨fun h => h.elim .inl (fun h => .inr h.symm), fun h => h.elim .inl (fun h => .inr h.symm)⟩
  simp only [this]
theorem amg_take {xs : List Int} {k : Nat} (h : k < xs.length) : amg (xs.take (k + 1)) = bts ((xs.take k).contains 1 || xs.getD k 0 == 1) ((xs.take k).contains 2 || xs.getD k 0 == 2) ((xs.take k).contains 3 || xs.getD k 0 == 3) ((xs.take k).contains 4 || xs.getD k 0 == 4) ((xs.take k).contains 5 || xs.getD k 0 == 5) := by
  rw [List.take_succ_eq_append_getElem h, amg_snoc]
  have e : xs.getD k 0 = xs[k] := by simp [List.getD, h]
  rw [e]

/-- Is it so of more than half? -/
def cntB (G : Nat) (p : Int → Bool) : Nat := ((row G).filter p).length
def mostB (G : Nat) (p : Int → Bool) : Bool := decide (pop G < 2 * cntB G p)
def majB (xs set : List Int) : Bool := mostB (grp xs) (inG (amg set))
/-- How far one is, by a row of pairs; how far more than half are. -/
def comeF (l : List (Int × Int)) (m : Int) : Int := l.foldl (fun f x => if x.1 = m ∧ f < x.2 then x.2 else f) 0
def agK (G : Nat) (far : Int → Int) : Nat → Int
  | 0 => 0
  | k + 1 => if mostB G (fun o => decide (far ((row G).getD k 0) ≤ far o)) = true then max (agK G far k) (far ((row G).getD k 0)) else agK G far k
def agr (xs : List Int) (l : List (Int × Int)) : Int := agK (grp xs) (comeF l) (pop (grp xs))

end Go.Proofs.YtfclppopelmdgaaDoor
