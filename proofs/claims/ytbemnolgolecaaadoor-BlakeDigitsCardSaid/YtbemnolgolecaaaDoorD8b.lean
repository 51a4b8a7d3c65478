/-
  '<' of two texts in the model's form is the digests' order.
-/
import Derived.Test.YtbemnolgolecaaaDoorD8
namespace Go.Proofs.YtbemnolgolecaaaDoor
open Go.RowKit

theorem less_cmp : ∀ x y : List UInt8, Op.bytesLess x y = decide (Lib.compareBytes x y < 0)
  | [], [] => rfl
  | [], _ :: _ => rfl
  | _ :: _, [] => rfl
  | a :: x, b :: y => by
    have ih := less_cmp x y
    unfold Op.bytesLess Lib.compareBytes
    rw [ih]
    by_cases h : a < b
    · simp [h]
    · by_cases h2 : b < a
      · have hn : ¬ a = b := fun e => by subst e; exact h h2
        simp [h, h2, hn]
      · have e : a = b := by
          apply UInt8.toNat_inj.1
          rw [UInt8.lt_iff_toNat_lt] at h h2
          omega
        subst e
        simp [h]
theorem str_less (a b : List Int) : Op.bytesLess (strOfNums a).toList (strOfNums b).toList = decide (cmpL a b < 0) := by
  rw [Lib.toList_data, Lib.toList_data, less_cmp]
  rfl
theorem text_less (a b : List Int) (ha : a.length = 32) (hb : b.length = 32) (ba : Bs a) (bb : Bs b) : Op.bytesLess (strOfNums (textF a)).toList (strOfNums (textF b)).toList = decide (cmpL a b < 0) := by
  rw [str_less, decide_eq_decide]
  exact text_order a b ha hb ba bb
/-- Of two digests one is ahead, or both are one. -/
theorem cmp_three (a b : List Int) (ha : a.length = 32) (hb : b.length = 32) (ba : Bs a) (bb : Bs b) :
    (a = b ∧ decide (cmpL a b < 0) = false ∧ decide (cmpL b a < 0) = false) ∨ (a ≠ b ∧ decide (cmpL a b < 0) = true ∧ decide (cmpL b a < 0) = false) ∨ (a ≠ b ∧ decide (cmpL a b < 0) = false ∧ decide (cmpL b a < 0) = true) := by
  rcases first_ne a b 32 with h | ⟨k, hk, h1, h2⟩
  · have hab : a = b := by
      apply List.ext_getElem
      · rw [ha, hb]
      · intro i p q
        have := h i (by omega)
        simpa [List.getD, p, q] using this
    subst hab
    refine .inl ⟨rfl, ?_, ?_⟩ <;> (unfold cmpL; rw [cmp_self]; rfl)
  · have c := cmp_ne k a b ba bb (by omega) (by omega) h1 h2
    have d := cmp_ne k b a bb ba (by omega) (by omega) (fun i hi => (h1 i hi).symm) (fun e => h2 e.symm)
    have hn : a ≠ b := fun e => h2 (by rw [e])
    by_cases hlt : a.getD k 0 < b.getD k 0
    · exact .inr (.inl ⟨hn, decide_eq_true (c.2 hlt), decide_eq_false (fun e => by have := d.1 e; omega)⟩)
    · exact .inr (.inr ⟨hn, decide_eq_false (fun e => by have := c.1 e; omega), decide_eq_true (d.2 (by omega))⟩)

end Go.Proofs.YtbemnolgolecaaaDoor
