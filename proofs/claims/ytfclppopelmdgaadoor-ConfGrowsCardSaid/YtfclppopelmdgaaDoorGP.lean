/-
  Plain facts for ConfGrows.
-/
import Derived.Test.YtfclppopelmdgaaDoorE6
namespace Go.Proofs.YtfclppopelmdgaaDoor
open Go.RowKit

theorem come_fold (m : Int) : ∀ (l : List (Int × Int)) (f : Int),
    f ≤ l.foldl (fun f x => if x.1 = m ∧ f < x.2 then x.2 else f) f ∧ (∀ x ∈ l, x.1 = m → x.2 ≤ l.foldl (fun f x => if x.1 = m ∧ f < x.2 then x.2 else f) f) ∧
    (l.foldl (fun f x => if x.1 = m ∧ f < x.2 then x.2 else f) f = f ∨ ∃ x ∈ l, x.1 = m ∧ x.2 = l.foldl (fun f x => if x.1 = m ∧ f < x.2 then x.2 else f) f)
  | [], f => ⟨Int.le_refl _, fun x hx => (by cases hx), .inl rfl⟩
  | y :: r, f => by
    rw [List.foldl_cons]
    obtain ⟨h1, h2, h3⟩ := come_fold m r (if y.1 = m ∧ f < y.2 then y.2 else f)
    have hf : f ≤ (if y.1 = m ∧ f < y.2 then y.2 else f) := by split <;> omega
    refine ⟨Int.le_trans hf h1, fun x hx e => ?_, ?_⟩
    · rcases List.mem_cons.1 hx with rfl | hx
      · refine Int.le_trans ?_ h1
        split <;> omega
      · exact h2 x hx e
    · rcases h3 with h3 | ⟨x, hx, e, h3⟩
      · by_cases hc : y.1 = m ∧ f < y.2
        · rw [if_pos hc] at h3 ⊢
          exact .inr ⟨y, List.mem_cons_self, hc.1, h3.symm⟩
        · rw [if_neg hc] at h3 ⊢
          exact .inl h3
      · exact .inr ⟨x, List.mem_cons_of_mem _ hx, e, h3⟩
theorem come_nonneg (l : List (Int × Int)) (m : Int) : 0 ≤ comeF l m := (come_fold m l 0).1
theorem come_ge {l : List (Int × Int)} {x : Int × Int} (h : x ∈ l) : x.2 ≤ comeF l x.1 := (come_fold x.1 l 0).2.1 x h rfl
theorem come_hit (l : List (Int × Int)) (m : Int) : comeF l m = 0 ∨ ∃ x ∈ l, x.1 = m ∧ x.2 = comeF l m := (come_fold m l 0).2.2
theorem come_sub {l k : List (Int × Int)} (h : ∀ x ∈ l, x ∈ k) (m : Int) : comeF l m ≤ comeF k m := by
  rcases come_hit l m with h0 | ⟨x, hx, rfl, e⟩
  · rw [h0]; exact come_nonneg _ _
  · rw [← e]; exact come_ge (h x hx)
theorem come_eq {l k : List (Int × Int)} (h : ∀ x ∈ l, x ∈ k) (h' : ∀ x ∈ k, x ∈ l) (m : Int) : comeF l m = comeF k m := Int.le_antisymm (come_sub h m) (come_sub h' m)
/-- Who is as far as a. -/
def farM (l : List (Int × Int)) (a : Int) : List Int := (l.filter fun x => decide (a ≤ x.2)).map (·.1)
theorem farM_in (l : List (Int × Int)) {a : Int} (h : 0 < a) (o : Int) : (farM l a).contains o = decide (a ≤ comeF l o) := by
  rw [Bool.eq_iff_iff, List.contains_iff_mem, decide_eq_true_eq]
  unfold farM
  rw [List.mem_map]
  constructor
  · rintro ⟨x, hx, rfl⟩
    rw [List.mem_filter, decide_eq_true_eq] at hx
    exact Int.le_trans hx.2 (come_ge hx.1)
  · intro hc
    rcases come_hit l o with h0 | ⟨x, hx, rfl, e⟩
    · omega
    · exact ⟨x, List.mem_filter.2 ⟨hx, by rw [decide_eq_true_eq]; omega⟩, rfl⟩
theorem cntB_mono {G : Nat} {p q : Int → Bool} (h : ∀ m ∈ row G, p m = true → q m = true) : cntB G p ≤ cntB G q := by
  unfold cntB
  rw [← List.countP_eq_length_filter, ← List.countP_eq_length_filter]
  exact List.countP_mono_left h
theorem mostB_mono {G : Nat} {p q : Int → Bool} (h : ∀ m ∈ row G, p m = true → q m = true) (hm : mostB G p = true) : mostB G q = true := by
  unfold mostB at hm ⊢
  rw [decide_eq_true_eq] at hm ⊢
  have := cntB_mono h
  omega
theorem least_of (f : Int → Int) (p : Int → Bool) : ∀ l : List Int, (∃ m ∈ l, p m = true) → ∃ m ∈ l, p m = true ∧ ∀ o ∈ l, p o = true → f m ≤ f o
  | [], h => by obtain ⟨m, hm, _⟩ := h; cases hm
  | y :: r, h => by
    by_cases hr : ∃ m ∈ r, p m = true
    · obtain ⟨m, hm, pm, hl⟩ := least_of f p r hr
      by_cases hy : p y = true ∧ f y < f m
      · refine ⟨y, List.mem_cons_self, hy.1, fun o ho po => ?_⟩
        rcases List.mem_cons.1 ho with rfl | ho
        · exact Int.le_refl _
        · have := hl o ho po; omega
      · refine ⟨m, List.mem_cons_of_mem _ hm, pm, fun o ho po => ?_⟩
        rcases List.mem_cons.1 ho with rfl | ho
        · by_cases hc : f o < f m
          · exact absurd ⟨po, hc⟩ hy
          · omega
        · exact hl o ho po
    · obtain ⟨m, hm, pm⟩ := h
      rcases List.mem_cons.1 hm with rfl | hm
      · refine ⟨m, List.mem_cons_self, pm, fun o ho po => ?_⟩
        rcases List.mem_cons.1 ho with rfl | ho
        · exact Int.le_refl _
        · exact absurd ⟨o, ho, po⟩ hr
      · exact absurd ⟨m, hm, pm⟩ hr
theorem agK_step (G : Nat) (f : Int → Int) (k : Nat) : agK G f k ≤ agK G f (k + 1) := by
  show _ ≤ (if mostB G (fun o => decide (f ((row G).getD k 0) ≤ f o)) = true then max (agK G f k) (f ((row G).getD k 0)) else agK G f k)
  split <;> omega
theorem agK_mono (G : Nat) (f : Int → Int) {j : Nat} : ∀ k, j ≤ k → agK G f j ≤ agK G f k
  | 0, h => by obtain rfl : j = 0 := by omega
               exact Int.le_refl _
  | k + 1, h => by
    rcases Nat.lt_or_ge j (k + 1) with h1 | h1
    · exact Int.le_trans (agK_mono G f k (by omega)) (agK_step G f k)
    · obtain rfl : j = k + 1 := by omega
      exact Int.le_refl _
theorem agK_hit (G : Nat) (f : Int → Int) : ∀ k, agK G f k = 0 ∨ ∃ i, i < k ∧ mostB G (fun o => decide (f ((row G).getD i 0) ≤ f o)) = true ∧ agK G f k = f ((row G).getD i 0)
  | 0 => .inl rfl
  | k + 1 => by
    have e : agK G f (k + 1) = if mostB G (fun o => decide (f ((row G).getD k 0) ≤ f o)) = true then max (agK G f k) (f ((row G).getD k 0)) else agK G f k := rfl
    by_cases hm : mostB G (fun o => decide (f ((row G).getD k 0) ≤ f o)) = true
    · rw [if_pos hm] at e
      by_cases hc : agK G f k < f ((row G).getD k 0)
      · exact .inr ⟨k, by omega, hm, by rw [e]; omega⟩
      · rw [show max (agK G f k) (f ((row G).getD k 0)) = agK G f k by omega] at e
        rcases agK_hit G f k with h0 | ⟨i, hi, h1, h2⟩
        · exact .inl (e.trans h0)
        · exact .inr ⟨i, by omega, h1, e.trans h2⟩
    · rw [if_neg hm] at e
      rcases agK_hit G f k with h0 | ⟨i, hi, h1, h2⟩
      · exact .inl (e.trans h0)
      · exact .inr ⟨i, by omega, h1, e.trans h2⟩
theorem agK_nonneg (G : Nat) (f : Int → Int) (k : Nat) : 0 ≤ agK G f k := agK_mono G f (j := 0) k (Nat.zero_le _)
/-- As far more than half are, and no further. -/
theorem agK_most (G : Nat) (f : Int → Int) {a : Int} (h : 0 < a) : mostB G (fun o => decide (a ≤ f o)) = true ↔ a ≤ agK G f (pop G) := by
  constructor
  · intro hm
    have hex : ∃ m ∈ row G, decide (a ≤ f m) = true := by
      have hc : 0 < cntB G (fun o => decide (a ≤ f o)) := by
        unfold mostB at hm
        rw [decide_eq_true_eq] at hm
        omega
      unfold cntB at hc
      obtain ⟨m, hmm⟩ := List.exists_mem_of_length_pos hc
      rw [List.mem_filter] at hmm
      exact ⟨m, hmm.1, hmm.2⟩
    obtain ⟨m, hmr, hma, hl⟩ := least_of f (fun o => decide (a ≤ f o)) (row G) hex
    rw [decide_eq_true_eq] at hma
    obtain ⟨k, hk, rfl⟩ := List.getElem_of_mem hmr
    have hmost : mostB G (fun o => decide (f (row G)[k] ≤ f o)) = true := mostB_mono (fun o ho po => by rw [decide_eq_true_eq]; exact hl o ho po) hm
    have e : (row G).getD k 0 = (row G)[k] := by simp [List.getD, hk]
    have : f (row G)[k] ≤ agK G f (k + 1) := by
      show _ ≤ (if mostB G (fun o => decide (f ((row G).getD k 0) ≤ f o)) = true then max (agK G f k) (f ((row G).getD k 0)) else agK G f k)
      rw [e, if_pos hmost]
      omega
    exact Int.le_trans hma (Int.le_trans this (agK_mono G f _ (by unfold pop; omega)))
  · intro ha
    rcases agK_hit G f (pop G) with h0 | ⟨i, hi, h1, h2⟩
    · omega
    · exact mostB_mono (fun o _ po => by rw [decide_eq_true_eq] at po ⊢; omega) h1
section
variable {X : List Int} {l : List (Int × Int)}
theorem agr_nonneg (X : List Int) (l : List (Int × Int)) : 0 ≤ agr X l := agK_nonneg _ _ _
theorem maj_far (l : List (Int × Int)) {a : Int} (ha : 0 < a) : majB X (farM l a) = true ↔ a ≤ agr X l := by
  show majB X (farM l a) = true ↔ a ≤ agK (grp X) (comeF l) (pop (grp X))
  rw [← agK_most (grp X) (comeF l) ha]
  unfold majB
  rw [mostB_congr (grp X) (q := fun o => decide (a ≤ comeF l o)) fun o ho => by
    obtain ⟨o1, o5⟩ := inG_range (mem_row.1 ho)
    rw [inG_amg, decide_eq_true o1, decide_eq_true o5, Bool.true_and, Bool.true_and, farM_in l ha]]
theorem maj_at (h : 0 < agr X l) : majB X (farM l (agr X l)) = true := (maj_far l h).2 (Int.le_refl _)
theorem maj_on (X : List Int) (l : List (Int × Int)) : majB X (farM l (agr X l + 1)) = false := by
  rw [← Bool.not_eq_true, maj_far l (by have := agr_nonneg X l; omega)]
  omega
theorem agr_congr {k : List (Int × Int)} (h : ∀ o ∈ row (grp X), comeF l o = comeF k o) : agr X l = agr X k := by
  have hd : ∀ a b : List (Int × Int), (∀ o ∈ row (grp X), comeF a o = comeF b o) → agr X a ≤ agr X b := fun a b h => by
    by_cases h0 : 0 < agr X a
    · have h1 := (agK_most (grp X) (comeF a) h0).2 (Int.le_refl _)
      rw [mostB_congr (grp X) (q := fun o => decide (agr X a ≤ comeF b o)) fun o ho => by rw [h o ho]] at h1
      exact (agK_most (grp X) (comeF b) h0).1 h1
    · have := agr_nonneg X b; omega
  exact Int.le_antisymm (hd l k h) (hd k l fun o ho => (h o ho).symm)
theorem agr_more (X : List Int) (l : List (Int × Int)) (x : Int × Int) : agr X l ≤ agr X (l ++ [x]) := by
  by_cases h0 : 0 < agr X l
  · have h1 := (agK_most (grp X) (comeF l) h0).2 (Int.le_refl _)
    exact (agK_most (grp X) (comeF (l ++ [x])) h0).1 (mostB_mono (fun o _ po => by
      rw [decide_eq_true_eq] at po ⊢
      exact Int.le_trans po (come_sub (fun y hy => List.mem_append_left _ hy) o)) h1)
  · have := agr_nonneg X (l ++ [x]); omega
theorem agr_other {x : Int × Int} (h : inG (grp X) x.1 = false) : agr X (l ++ [x]) = agr X l := by
  refine agr_congr fun o ho => ?_
  refine Int.le_antisymm ?_ (come_sub (fun y hy => List.mem_append_left _ hy) o)
  rcases come_hit (l ++ [x]) o with h0 | ⟨y, hy, rfl, e⟩
  · rw [h0]; exact come_nonneg _ _
  · rcases List.mem_append.1 hy with hy | hy
    · rw [← e]; exact come_ge hy
    · rw [List.mem_singleton] at hy
      subst hy
      rw [mem_row] at ho
      rw [ho] at h
      cases h
theorem agr_back {k : List (Int × Int)} (h : ∀ x ∈ k, x ∈ l) : agr X (k ++ l) = agr X l :=
  agr_congr fun o _ => come_eq (fun x hx => (List.mem_append.1 hx).elim (h x) id) (fun _ hx => List.mem_append_right _ hx) o
theorem agr_zero (h : grp X = 0) : agr X l = 0 := by unfold agr; rw [h]; rfl
theorem agr_most (hb : Mbd l) : agr X l ≤ 18446744073709551615 := by
  rcases agK_hit (grp X) (comeF l) (pop (grp X)) with h0 | ⟨i, _, _, h2⟩
  · unfold agr; omega
  · unfold agr
    rw [h2]
    rcases come_hit l ((row (grp X)).getD i 0) with h0 | ⟨x, hx, _, e⟩
    · omega
    · obtain ⟨j, hj, rfl⟩ := List.getElem_of_mem hx
      have := (hb j).2
      simp [List.getD, hj] at this
      omega
end
end Go.Proofs.YtfclppopelmdgaaDoor
