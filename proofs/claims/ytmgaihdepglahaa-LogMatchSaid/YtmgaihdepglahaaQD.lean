/-
  Plain facts: where a log may be, the program's answers are the document's.
-/
import Derived.Test.YtmgaihdepglahaaQW
namespace Go.Proofs.Ytmgaihdepglahaa

theorem subw_pos {i : Int} (hi : 0 < i) (hi' : i < 18446744073709551616) : subw i = i - 1 := by unfold subw; omega
theorem num_top {l : Lg} (hr : right l = true) (h0 : 0 ≤ l.bi) : l.num 18446744073709551615 = none := by
  have hp := (right_parts hr).2.2.2
  show numB l.bi l.es.length 18446744073709551615 = none
  rw [numB_right hr h0 (by omega) (by omega), if_neg (by omega)]
theorem spotE_right {l : Lg} (hr : right l = true) (j : Int) : spotE l j = if (l.num j).isSome then 0 else 4 := by unfold spotE; rw [if_pos hr]
theorem cut_doc {l : Lg} (hr : right l = true) (h0 : 0 ≤ l.bi) {i : Int} (hi : 0 ≤ i) (hi' : i < 18446744073709551616) : rCutE l i = spotE l (subw i) ∧ rCutL l i = pCutL l (subw i) := by
  have key : l.ahead i = l.num (subw i) := by
    unfold Lg.ahead
    by_cases h : i = 0
    · rw [if_pos h, h, show subw 0 = 18446744073709551615 from by decide, num_top hr h0]
    · rw [if_neg h, subw_pos (by omega) hi']
  unfold rCutE rCutL pCutL spotN
  rw [key, spotE_right hr]
  cases l.num (subw i) with
  | none => exact ⟨rfl, rfl⟩
  | some k => exact ⟨rfl, rfl⟩
theorem com_doc {l : Lg} (hr : right l = true) (i : Int) : rComL l i = pComL l i ∧ spotE l i = (if rComB l i = true then 0 else 4) := by
  unfold rComL pComL rComB spotT spotN
  rw [spotE_right hr]
  cases l.num i with
  | none => exact ⟨rfl, rfl⟩
  | some k => exact ⟨rfl, rfl⟩
theorem ext_doc {l : Lg} {more : List En} (hr : right l = true) : pExtE l more = rExtE l more ∧ pExtL l more = rExtL l more ∧ pExtI l more = rExtI l more ∧ pExtT l more = rExtT l more := by
  have hE : pExtE l more = rExtE l more := if_pos hr
  refine ⟨hE, ?_, ?_, ?_⟩
  · unfold pExtL rExtL; rw [hE]; split <;> rfl
  · unfold pExtI rExtI; rw [hE]; split <;> rfl
  · unfold pExtT rExtT; rw [hE]; split <;> rfl
theorem spotE_not {l : Lg} (hr : right l = false) (j : Int) : spotE l j = 160 := by unfold spotE; rw [if_neg (by rw [hr]; decide)]
theorem cut_not {l : Lg} (hr : right l = false) (j : Int) : pCutL l j = lg0 := by unfold pCutL; rw [spotE_not hr, if_neg (by decide)]
theorem com_not {l : Lg} (hr : right l = false) (j : Int) : pComL l j = lg0 := by unfold pComL; rw [spotE_not hr, if_neg (by decide)]
theorem ext_not {l : Lg} (hr : right l = false) (more : List En) : pExtE l more = 160 ∧ pExtL l more = lg0 ∧ pExtI l more = 0 ∧ pExtT l more = 0 := by
  have hE : pExtE l more = 160 := if_neg (by rw [hr]; decide)
  exact ⟨hE, pExt_bad (by rw [hE]; decide)⟩
theorem Lok.ext {l : Lg} (h : Lok l) {more : List En} (hm : l.es.length + more.length ≤ 100) : Lok (pExtL l more) := by
  unfold pExtL rExtL
  split
  · split
    · exact ⟨by show (l.es ++ more).length ≤ 100; rw [List.length_append]; exact hm, h.bi0, h.bi1, h.bt0, h.bt1⟩
    · exact Lok.lg0
  · exact Lok.lg0
theorem Lok.cut {l : Lg} (h : Lok l) (j : Int) : Lok (pCutL l j) := by
  unfold pCutL
  split
  · exact ⟨by show (l.es.take _).length ≤ 100; rw [List.length_take]; have := h.few; omega, h.bi0, h.bi1, h.bt0, h.bt1⟩
  · exact Lok.lg0
theorem Lok.com {l : Lg} (h : Lok l) (hT : ∀ k, k ≤ l.es.length → 0 ≤ l.T k ∧ l.T k < 18446744073709551616) {i : Int} (hi : 0 ≤ i) (hi' : i < 18446744073709551616) : Lok (pComL l i) := by
  unfold pComL
  split
  · rename_i hE
    have hr := (spot_ok hE).1
    obtain ⟨_, hk, ht⟩ := (spot_at hr h.bi0 hi hi').2 hE
    refine ⟨by show (l.es.drop _).length ≤ 100; rw [List.length_drop]; have := h.few; omega, hi, hi', ?_, ?_⟩
    · show 0 ≤ spotT l i; rw [ht]; exact (hT _ hk).1
    · show spotT l i < _; rw [ht]; exact (hT _ hk).2
  · exact Lok.lg0

end Go.Proofs.Ytmgaihdepglahaa
