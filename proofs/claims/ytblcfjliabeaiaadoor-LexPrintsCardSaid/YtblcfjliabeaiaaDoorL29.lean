/-
  Which tokens may be: the document's one.
-/
import Derived.Test.YtblcfjliabeaiaaDoorL28
import Derived.Test.YtblcfjliabeaiaaDoorL20
namespace Go.Proofs.YtblcfjliabeaiaaDoor
open Go.RowKit Go.Shelf
attribute [local go_sem] Oper.semAt_some

def plA (l : List UInt8) : Bool := l.all fun b => plnB (b.toNat : Int)
theorem plA_yes {l : List UInt8} (h : ∀ j, j < l.length → plnB (bt l j) = true) : plA l = true := by
  unfold plA
  rw [List.all_eq_true]
  intro b hb
  obtain ⟨j, hj, rfl⟩ := List.getElem_of_mem hb
  have := h j hj
  simpa [bt, List.getD, hj] using this
theorem plA_no {l : List UInt8} {j : Nat} (hj : j < l.length) (h : plnB (bt l j) = false) : plA l = false := by
  unfold plA
  rw [List.all_eq_false]
  refine ⟨l[j], List.getElem_mem hj, ?_⟩
  have e : bt l j = (l[j].toNat : Int) := by simp [bt, List.getD, hj]
  rw [← e, h]
  decide
theorem plA_run (l : List UInt8) : (((runE plnB l 0 : Nat) : Int) == (l.length : Int)) = plA l := by
  have e : runE plnB l 0 = runN plnB l := by unfold runE; rw [List.drop_zero, Nat.zero_add]
  rw [e]
  by_cases ha : ∀ j, j < l.length → plnB (bt l j) = true
  · rw [plA_yes ha, runN_at plnB l l.length (Nat.le_refl _) ha (.inl rfl)]
    simp
  · obtain ⟨j, hj⟩ := Classical.not_forall.1 ha
    obtain ⟨hj, hp⟩ := Classical.not_imp.1 hj
    have hp' : plnB (bt l j) = false := by simpa using hp
    have := runN_stop plnB l j hj hp'
    rw [plA_no hj hp', beq_eq_false_iff_ne]
    omega
/-- Which tokens may be, as the document says it. -/
def oneB (kind : Int) (text : List UInt8) (num : Int) : Bool :=
  if kind = 1 then (match keyF text with | some k => (k == text) && (num == 0) | none => false)
  else if kind = 2 then nameB text && (num == 0)
  else if kind = 3 then (text == []) && decide (0 ≤ num)
  else if kind = 4 then plA text && (decide ((text.length : Int) ≤ 64) && (num == 0))
  else if kind = 5 then sigB text && (num == 0)
  else false
theorem oneB_eq (t : Tq) : oneB t.kind t.text t.num = tokB t := by
  obtain ⟨kind, text, num, aa, to_⟩ := t
  unfold oneB tokB
  simp only
  rw [sig_eq, plA_run]
  by_cases hn : num = 0
  · subst hn
    rw [if_neg (show ¬ (((0 : Int) != 0) = true ∧ (kind != 3) = true) from fun h => by cases h.1)]
    by_cases k1 : kind = 1
    · subst k1
      rw [if_pos rfl, if_pos (show ((1 : Int) == 1) = true from rfl)]
      cases keyF text with
      | none => rfl
      | some k =>
        show ((k == text) && true) = (text == k)
        rw [Bool.and_true, Bool.eq_iff_iff, beq_iff_eq, beq_iff_eq]
        exact ⟨fun h => h.symm, fun h => h.symm⟩
    · rw [if_neg k1, if_neg (show ¬ (kind == 1) = true by simpa using k1)]
      by_cases k2 : kind = 2
      · subst k2
        rw [if_pos rfl, if_pos (show ((2 : Int) == 2) = true from rfl), show ((0 : Int) == 0) = true from rfl, Bool.and_true]
      · rw [if_neg k2, if_neg (show ¬ (kind == 2) = true by simpa using k2)]
        by_cases k3 : kind = 3
        · subst k3
          rw [if_pos rfl, if_pos (show ((3 : Int) == 3) = true from rfl)]
        · rw [if_neg k3, if_neg (show ¬ (kind == 3) = true by simpa using k3)]
          by_cases k4 : kind = 4
          · subst k4
            rw [if_pos rfl, if_pos (show ((4 : Int) == 4) = true from rfl), show ((0 : Int) == 0) = true from rfl, Bool.and_true, Bool.and_comm]
          · rw [if_neg k4, if_neg (show ¬ (kind == 4) = true by simpa using k4)]
            by_cases k5 : kind = 5
            · subst k5
              rw [if_pos rfl, if_pos (show ((5 : Int) == 5) = true from rfl), show ((0 : Int) == 0) = true from rfl, Bool.and_true]
            · rw [if_neg k5, if_neg (show ¬ (kind == 5) = true by simpa using k5)]
  · have hf : (num == 0) = false := beq_eq_false_iff_ne.2 hn
    by_cases k3 : kind = 3
    · subst k3
      rw [if_neg (by decide), if_neg (by decide), if_pos rfl, if_neg (fun h => by cases h.2), if_neg (by decide), if_neg (by decide), if_pos (show ((3 : Int) == 3) = true from rfl)]
    · rw [if_pos (show ((num != 0) = true ∧ (kind != 3) = true) from ⟨by simpa using hn, by simpa using k3⟩), hf]
      simp only [Bool.and_false, if_neg k3]
      split
      · cases keyF text <;> rfl
      · split
        · rfl
        · split
          · rfl
          · split <;> rfl
end Go.Proofs.YtblcfjliabeaiaaDoor
