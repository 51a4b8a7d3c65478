/-
  Plain facts for ConfMoves; rows of one's own in a stretch of blocks; what noughts written there leave.
-/
import Derived.Test.YtfclppopelmdgaaDoorD2
namespace Go.Proofs.YtfclppopelmdgaaDoor
open Go.RowKit

theorem has_right2 {xs : List Int} (m : Int) : (rightC xs = true → xs.contains m = inG (grp xs) m) ∧ (rightC xs = false → inG (grp xs) m = false) := by
  unfold rightC
  constructor
  · intro h
    have hg : grp xs ≠ 0 := by simpa using h
    have hx := of_grp hg
    rw [Bool.eq_iff_iff, List.contains_iff_mem, ← mem_row, ← hx]
  · intro h
    have hg : grp xs = 0 := by simpa using h
    rw [hg]
    unfold inG
    simp
theorem ios_cm2 {w : World} {base n c : Nat} {A : Option Addr} {zs : List Int} (h : Ios w base A n c zs) : c ≤ 9223372036854775807 := by
  rcases h.2 with ⟨hv, _⟩ | ⟨g, cap, cur, hv, hb, hh, hnc, hm, _⟩
  · injection hv with _ _ h3
    omega
  · injection hv with _ _ h3
    unfold maxLen at hm
    omega
theorem mv_wrong {X : List Int} (h : rightC X = false) (m : Int) : addE X m = 180 ∧ dropE X m = 180 ∧ addL X m = [] ∧ dropL X m = [] := by
  unfold rightC at h
  have hg : grp X = 0 := by simpa using h
  have h1 : addE X m = 180 := by unfold addE; rw [if_pos hg]
  have h2 : dropE X m = 180 := by unfold dropE; rw [if_pos hg]
  refine ⟨h1, h2, ?_, ?_⟩
  · unfold addL; rw [h1]; rfl
  · unfold dropL; rw [h2]; rfl
theorem mv_there {X : List Int} (h : rightC X = true) {m : Int} (hi : X.contains m = true) : addE X m = 5 ∧ addL X m = [] ∧ (1 < X.length → dropE X m = 0 ∧ dropL X m = X.filter (fun x => !(x == m))) ∧ (¬ 1 < X.length → dropE X m = 180 ∧ dropL X m = []) := by
  rw [(has_right2 m).1 h] at hi
  unfold rightC at h
  have hg : grp X ≠ 0 := by simpa using h
  have hx := of_grp hg
  have ha := in_alo hi
  have h1 : addE X m = 5 := by unfold addE; rw [if_neg hg, if_neg ha, if_pos hi]
  have hl : X.length = pop (grp X) := congrArg List.length hx
  refine ⟨h1, by unfold addL; rw [h1]; rfl, fun hlen => ?_, fun hlen => ?_⟩
  · have hne : grp X ≠ alo m := fun e => by
      obtain ⟨k, rfl, e2⟩ := alo_pow ha
      rw [hl, e, e2] at hlen
      have : ∀ k : Fin 5, ¬ 1 < pop (2 ^ k.val) := by decide +kernel
      exact this k hlen
    have h2 : dropE X m = 0 := by unfold dropE; rw [if_neg hg, if_neg (by rw [hi]; decide), if_neg hne]
    refine ⟨h2, ?_⟩
    unfold dropL
    rw [if_pos h2]
    obtain ⟨k, rfl, e2⟩ := alo_pow ha
    have := without_row ⟨grp X, grp_lt X⟩ k hi
    simp only at this
    rw [e2, ← this, ← hx]
  · have heq : grp X = alo m := by
      obtain ⟨k, rfl, e2⟩ := alo_pow ha
      rw [hl] at hlen
      have : ∀ g : Fin 32, ∀ k : Fin 5, inG g.val ((k.val : Int) + 1) = true → ¬ 1 < pop g.val → g.val = 2 ^ k.val := by decide +kernel
      rw [e2]
      exact this ⟨grp X, grp_lt X⟩ k hi hlen
    have h2 : dropE X m = 180 := by unfold dropE; rw [if_neg hg, if_neg (by rw [hi]; decide), if_pos heq]
    exact ⟨h2, by unfold dropL; rw [h2]; rfl⟩
theorem mv_out {X : List Int} (h : rightC X = true) {m : Int} (hi : X.contains m = false) (hr : m < 1 ∨ 5 < m) : addE X m = 2 ∧ dropE X m = 4 ∧ addL X m = [] ∧ dropL X m = [] := by
  rw [(has_right2 m).1 h] at hi
  unfold rightC at h
  have hg : grp X ≠ 0 := by simpa using h
  have ha : alo m = 0 := by
    rcases alo_cases m with ⟨rfl, _⟩ | ⟨rfl, _⟩ | ⟨rfl, _⟩ | ⟨rfl, _⟩ | ⟨rfl, _⟩ | ⟨_, e⟩
    all_goals first | exact e | omega
  have h1 : addE X m = 2 := by unfold addE; rw [if_neg hg, if_pos ha]
  have h2 : dropE X m = 4 := by unfold dropE; rw [if_neg hg, if_pos hi]
  refine ⟨h1, h2, ?_, ?_⟩
  · unfold addL; rw [h1]; rfl
  · unfold dropL; rw [h2]; rfl
theorem mv_new {X : List Int} (h : rightC X = true) {m : Int} (hi : X.contains m = false) (h1 : 1 ≤ m) (h5 : m ≤ 5) : addE X m = 0 ∧ dropE X m = 4 ∧ addL X m = row (amg (X ++ [m])) ∧ dropL X m = [] := by
  rw [(has_right2 m).1 h] at hi
  unfold rightC at h
  have hg : grp X ≠ 0 := by simpa using h
  have hx := of_grp hg
  have ha : alo m ≠ 0 := by rcases five h1 h5 with rfl | rfl | rfl | rfl | rfl <;> decide
  have e1 : addE X m = 0 := by unfold addE; rw [if_neg hg, if_neg ha, if_neg (by rw [hi]; decide)]
  have e2 : dropE X m = 4 := by unfold dropE; rw [if_neg hg, if_pos hi]
  refine ⟨e1, e2, ?_, by unfold dropL; rw [e2]; rfl⟩
  unfold addL
  rw [if_pos e1]
  obtain ⟨k, rfl, e3⟩ := alo_pow ha
  have := with_row ⟨grp X, grp_lt X⟩ k hi
  simp only at this
  rw [e3, ← this, ← hx]
theorem right_len {X : List Int} (h : rightC X = true) : X.length ≤ 5 := by
  unfold rightC at h
  have hg : grp X ≠ 0 := by simpa using h
  rw [of_grp hg]
  exact pop_le _

/-- A row of ints of one's own in a block from lo on, below hi. -/
def Mj (w : World) (lo hi : Nat) (A : Option Addr) (n c : Nat) (xs : List Int) : Prop :=
  xs.length = n ∧ n ≤ c ∧ ((A = none ∧ c = 0) ∨ ∃ g t cur, A = some ⟨g, 0, none⟩ ∧ lo ≤ g ∧ g < hi ∧ Blk w g t cur ∧ c ≤ cur.size ∧ ∀ j, j < n → cur[j]? = some (.int .i64 (xs.getD j 0)))
theorem Mi.mj {w : World} {base n c : Nat} {A : Option Addr} {xs : List Int} (h : Mi w base A n c xs) : Mj w base w.heap.size A n c xs := by
  refine ⟨h.1, h.2.1, ?_⟩
  rcases h.2.2 with hn | ⟨g, t, cur, e, hg, hbl, hc, hx⟩
  · exact .inl hn
  · exact .inr ⟨g, t, cur, e, hg, hbl.lt, hbl, hc, hx⟩
theorem Mj.below {w w' : World} {lo hi n c : Nat} {A : Option Addr} {xs : List Int} (h : Mj w lo hi A n c xs) (hb : Below hi w w') : Mj w' lo hi A n c xs := by
  refine ⟨h.1, h.2.1, ?_⟩
  rcases h.2.2 with hn | ⟨g, t, cur, e, hg, hh, hbl, hc, hx⟩
  · exact .inl hn
  · exact .inr ⟨g, t, cur, e, hg, hh, hbl.below hb hh, hc, hx⟩
theorem Mj.is_ {w : World} {lo hi n c : Nat} {A : Option Addr} {xs : List Int} (h : Mj w lo hi A n c xs) : Is w hi A n xs := by
  refine ⟨h.1, fun hp => ?_⟩
  rcases h.2.2 with ⟨_, hc⟩ | ⟨g, t, cur, e, hg, hh, hbl, hc, hx⟩
  · have := h.2.1; omega
  · exact ⟨g, 0, e, hh, fun j hj => by rw [Nat.zero_add, hbl.cell]; exact hx j hj⟩
/-- All lies as it lay, but for the blocks from lo on that are below hi. -/
structure Zr (lo hi : Nat) (A B : World) : Prop where
  os : B.os = A.os
  tape : B.tape = A.tape
  output : B.output = A.output
  size : B.heap.size = A.heap.size
  block : ∀ j, (j < lo ∨ hi ≤ j) → B.heap[j]? = A.heap[j]?
theorem Zr.refl (lo hi : Nat) (A : World) : Zr lo hi A A := ⟨rfl, rfl, rfl, rfl, fun _ _ => rfl⟩
theorem Zr.below {lo hi n : Nat} {A B : World} (h : Zr lo hi A B) (hn : n ≤ lo) : Below n A B := ⟨h.os, h.tape, h.output, Nat.le_of_eq h.size.symm, fun j hj => h.block j (.inl (by omega))⟩
theorem Zr.set_ {lo hi g i : Nat} {A B : World} (h : Zr lo hi A B) (h1 : lo ≤ g) (h2 : g < hi) (u : Value) : Zr lo hi A (B.setCell ⟨g, i, none⟩ u) :=
  ⟨h.os, h.tape, h.output, by simp [World.setCell, h.size], fun j hj => (Below.heap_setCell _ _ _ _ (by show j ≠ g; omega)).trans (h.block j hj)⟩
theorem Zr.blk {lo hi g : Nat} {A B : World} {t : TypeId} {cs : Array Value} (h : Zr lo hi A B) (hb : Blk A g t cs) (hg : g < lo ∨ hi ≤ g) : Blk B g t cs := (h.block g hg).trans hb
theorem Mj.zr {w w' : World} {lo hi l u n c : Nat} {A : Option Addr} {xs : List Int} (h : Mj w lo hi A n c xs) (z : Zr l u w w') (hu : u ≤ lo) : Mj w' lo hi A n c xs := by
  refine ⟨h.1, h.2.1, ?_⟩
  rcases h.2.2 with hn | ⟨g, t, cur, e, hg, hh, hbl, hc, hx⟩
  · exact .inl hn
  · exact .inr ⟨g, t, cur, e, hg, hh, z.blk hbl (.inr (by omega)), hc, hx⟩
/-- Where noughts are written: cells enough. -/
def Wr (w : World) (lo hi : Nat) (A : Option Addr) (n : Nat) : Prop := 0 < n → ∃ g t cur, A = some ⟨g, 0, none⟩ ∧ lo ≤ g ∧ g < hi ∧ Blk w g t cur ∧ n ≤ cur.size
theorem Mj.wr {w : World} {lo hi n c : Nat} {A : Option Addr} {xs : List Int} (h : Mj w lo hi A n c xs) : Wr w lo hi A n := fun hp => by
  rcases h.2.2 with ⟨_, hc⟩ | ⟨g, t, cur, e, hg, hh, hbl, hc, hx⟩
  · have := h.2.1; omega
  · exact ⟨g, t, cur, e, hg, hh, hbl, Nat.le_trans h.2.1 hc⟩
end Go.Proofs.YtfclppopelmdgaaDoor
