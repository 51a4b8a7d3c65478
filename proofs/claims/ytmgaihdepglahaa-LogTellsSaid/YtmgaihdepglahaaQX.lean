/-
  Plain facts: where a log may be, what the program takes is what the document takes.
-/
import Derived.Test.YtmgaihdepglahaaQ2
import Derived.Test.YtmgaihdepglahaaQD
namespace Go.Proofs.Ytmgaihdepglahaa

theorem meet_doc {l : Lg} (hr : right l = true) (pi pt : Int) (es : List En) : rMeetE l pi pt es = meetE l pi pt es ∧ rMeetN l pi pt es = meetN l pi pt es := ⟨(if_pos hr).symm, (if_pos hr).symm⟩
theorem take_doc {l : Lg} {pi pt : Int} {es : List En} (hr : right l = true) (h0 : 0 ≤ l.bi) (hp : 0 ≤ pi) :
    rTakeE l pi pt es = pTakeE l pi pt es ∧ rTakeL l pi pt es = pTakeL l pi pt es ∧ rTakeI l pi pt es = pTakeI l pi pt es := by
  have hE := (meet_doc hr pi pt es).1
  have hN := (meet_doc hr pi pt es).2
  have hEE : rTakeE l pi pt es = pTakeE l pi pt es ∧ (meetE l pi pt es = 0 → meetN l pi pt es < es.length → takeC l pi pt es = tkL l pi pt es) := by
    by_cases hz : meetE l pi pt es = 0
    · have hO := Off.of hp hz
      have hrm := hO.rm
      have key : meetN l pi pt es < es.length → rCutE l (spI pi (meetN l pi pt es + 1)) = 0 ∧ rCutL l (spI pi (meetN l pi pt es + 1)) = tkL l pi pt es := fun hlt => by
        obtain ⟨q, hq, hqn, hqs⟩ := hO.spot hp h0 hlt
        have hs1 : spI pi (meetN l pi pt es + 1) = pi + (meetN l pi pt es : Int) + 1 := by unfold spI; omega
        have hs0 : spI pi (meetN l pi pt es) = pi + (meetN l pi pt es : Int) := by unfold spI; omega
        have hb := (right_parts hr).2.2.2
        obtain ⟨c1, c2⟩ := cut_doc hr h0 (i := spI pi (meetN l pi pt es + 1)) (by omega) (by omega)
        have hsub : subw (spI pi (meetN l pi pt es + 1)) = spI pi (meetN l pi pt es) := by rw [subw_pos (by omega) (by omega)]; omega
        rw [hsub] at c1 c2
        have hE0 : spotE l (spI pi (meetN l pi pt es)) = 0 := (spot_at hr h0 (by omega) (by omega)).1.2 ⟨by omega, by omega⟩
        refine ⟨c1.trans hE0, c2.trans ?_⟩
        unfold pCutL tkL
        rw [if_pos hE0]
      refine ⟨?_, fun _ hlt => ?_⟩
      · unfold rTakeE takeC pTakeE
        rw [hE, hN, hz, if_neg (show ¬ ((0 : Int) ≠ 0) by decide), if_neg (show ¬ ((0 : Int) ≠ 0) by decide)]
        by_cases hlt : meetN l pi pt es < es.length
        · obtain ⟨k1, k2⟩ := key hlt
          rw [if_neg (show ¬ meetN l pi pt es = es.length by omega), if_pos hlt, k1, k2, if_neg (show ¬ ((0 : Int) ≠ 0) by decide)]
        · rw [if_pos (show meetN l pi pt es = es.length by have := hO.le; omega), if_neg hlt]
      · unfold takeC
        rw [hN]
        exact (key hlt).2
    · refine ⟨?_, fun h => absurd h hz⟩
      unfold rTakeE pTakeE
      rw [hE, if_pos hz, if_pos hz]
  obtain ⟨h1, h2⟩ := hEE
  refine ⟨h1, ?_, ?_⟩
  · unfold rTakeL pTakeL
    rw [h1]
    by_cases hT : pTakeE l pi pt es = 0
    · have hT' : ¬ pTakeE l pi pt es ≠ 0 := fun h => h hT
      rw [if_neg hT', if_neg hT', hN]
      have hz : meetE l pi pt es = 0 := by
        unfold pTakeE at hT
        by_cases h : meetE l pi pt es ≠ 0
        · rw [if_pos h] at hT; exact hT
        · exact Decidable.not_not.mp h
      have hle := meetN_le l pi pt es
      by_cases hlt : meetN l pi pt es < es.length
      · rw [if_neg (show ¬ meetN l pi pt es = es.length by omega), if_pos hlt, h2 hz hlt]
      · rw [if_pos (show meetN l pi pt es = es.length by omega), if_neg hlt]
    · rw [if_pos hT, if_pos hT]
  · unfold rTakeI pTakeI
    rw [h1]
theorem take_not {l : Lg} (hr : right l = false) (pi pt : Int) (es : List En) : meetE l pi pt es = 160 ∧ meetN l pi pt es = 0 ∧ pTakeE l pi pt es = 160 ∧ pTakeL l pi pt es = lg0 ∧ pTakeI l pi pt es = 0 := by
  have h1 : meetE l pi pt es = 160 := if_neg (by rw [hr]; decide)
  have h2 : meetN l pi pt es = 0 := if_neg (by rw [hr]; decide)
  have h3 : pTakeE l pi pt es = 160 := by unfold pTakeE; rw [h1, if_pos (by decide)]
  refine ⟨h1, h2, h3, ?_, ?_⟩
  · unfold pTakeL; rw [h3, if_pos (by decide)]
  · unfold pTakeI; rw [h3, if_pos (by decide)]
theorem Lok.take {l : Lg} (h : Lok l) {pi pt : Int} {es : List En} (hm : l.es.length + es.length ≤ 100) : Lok (pTakeL l pi pt es) := by
  unfold pTakeL rExtL tkL
  split
  · exact Lok.lg0
  · split
    · split
      · refine ⟨?_, h.bi0, h.bi1, h.bt0, h.bt1⟩
        show (l.es.take _ ++ es.drop _).length ≤ 100
        rw [List.length_append, List.length_take, List.length_drop]
        omega
      · exact Lok.lg0
    · exact h

end Go.Proofs.Ytmgaihdepglahaa
