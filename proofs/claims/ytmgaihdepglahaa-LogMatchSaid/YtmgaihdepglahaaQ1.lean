/-
  Plain facts on logs that may be: their beginnings, their ends, what comes of a log cut and extended again.
-/
import Derived.Test.YtmgaihdepglahaaK5
namespace Go.Proofs.Ytmgaihdepglahaa

theorem spT_drop (bt : Int) (es : List En) (k m : Nat) : spT (spT bt es k) (es.drop k) m = spT bt es (k + m) := by
  cases m with
  | zero => rfl
  | succ m =>
    show ((es.drop k).getD m e0).t = (es.getD (k + m) e0).t
    simp [List.getD]
theorem spT_take (bt : Int) (es : List En) {k m : Nat} (h : m ≤ k) : spT bt (es.take k) m = spT bt es m := by
  cases m with
  | zero => rfl
  | succ m =>
    show ((es.take k).getD m e0).t = (es.getD m e0).t
    simp [List.getD, show m < k by omega]
theorem behind_take : ∀ (es : List En) (t : Int) (k : Nat), behind t es = true → behind t (es.take k) = true
  | [], _, k, _ => by simp [behind]
  | e :: r, t, 0, _ => rfl
  | e :: r, t, k + 1, h => by
    simp only [behind, Bool.and_eq_true] at h
    rw [List.take_succ_cons]
    simp only [behind, Bool.and_eq_true]
    exact ⟨h.1, h.2.1, behind_take r e.t k h.2.2⟩
theorem behind_drop : ∀ (es : List En) (t : Int) (k : Nat), behind t es = true → k ≤ es.length → behind (spT t es k) (es.drop k) = true
  | es, t, 0, h, _ => h
  | [], t, k + 1, h, hk => by simp at hk
  | e :: r, t, k + 1, h, hk => by
    simp only [behind, Bool.and_eq_true] at h
    have := behind_drop r e.t k h.2.2 (by simpa using hk)
    rw [List.drop_succ_cons]
    have e3 : spT t (e :: r) (k + 1) = spT e.t r k := by cases k <;> rfl
    rw [e3]
    exact this
theorem behind_term : ∀ (es : List En) (t : Int) (k : Nat), behind t es = true → k < es.length → (es.getD k e0).t ≠ 0
  | [], _, _, _, hk => by simp at hk
  | e :: r, t, 0, h, _ => by
    simp only [behind, Bool.and_eq_true] at h
    have h1 := h.1
    unfold rightE at h1
    simp only [Bool.and_eq_true, decide_eq_true_eq] at h1
    exact h1.1
  | e :: r, t, k + 1, h, hk => by
    simp only [behind, Bool.and_eq_true] at h
    exact behind_term r e.t k h.2.2 (by simpa using hk)

section
variable {l : Lg} (hr : right l = true) (h0 : 0 ≤ l.bi) {k : Nat} (hk : k ≤ l.es.length)
include hr h0 hk
omit h0 in
theorem cut_right : right ⟨l.bi, l.bt, l.es.take k⟩ = true := by
  obtain ⟨h1, h2, h3, h4⟩ := right_parts hr
  have hl : (l.es.take k).length = k := by rw [List.length_take]; omega
  exact right_mk h1 (by show (l.es.take k).length ≤ 16; omega) (behind_take _ _ _ h3) (by show l.bi + ((l.es.take k).length : Int) ≤ _; rw [hl]; omega)
theorem cut_last : (⟨l.bi, l.bt, l.es.take k⟩ : Lg).lastI = l.bi + k ∧ (⟨l.bi, l.bt, l.es.take k⟩ : Lg).lastT = l.T k := by
  have hl : (l.es.take k).length = k := by rw [List.length_take]; omega
  have hI : (⟨l.bi, l.bt, l.es.take k⟩ : Lg).lastI = spI l.bi k := by unfold Lg.lastI Lg.I; rw [show (⟨l.bi, l.bt, l.es.take k⟩ : Lg).es.length = k from hl]
  have hT : (⟨l.bi, l.bt, l.es.take k⟩ : Lg).lastT = spT l.bt (l.es.take k) k := by unfold Lg.lastT Lg.T; rw [show (⟨l.bi, l.bt, l.es.take k⟩ : Lg).es.length = k from hl]
  refine ⟨hI.trans (spI_right hr h0 hk), hT.trans ?_⟩
  rw [spT_take _ _ (Nat.le_refl _)]
  rfl
theorem ext_back : rExtE ⟨l.bi, l.bt, l.es.take k⟩ (l.es.drop k) = 0 ∧ rExtL ⟨l.bi, l.bt, l.es.take k⟩ (l.es.drop k) = l := by
  obtain ⟨h1, h2, h3, h4⟩ := right_parts hr
  have hl : (l.es.take k).length = k := by rw [List.length_take]; omega
  have hd : (l.es.drop k).length = l.es.length - k := List.length_drop
  have hE : rExtE ⟨l.bi, l.bt, l.es.take k⟩ (l.es.drop k) = 0 := by
    unfold rExtE
    rw [(cut_last hr h0 hk).2, (cut_last hr h0 hk).1]
    rw [show behind (l.T k) (l.es.drop k) = true from behind_drop _ _ _ h3 hk, if_neg (by simp), if_neg ?_]
    rintro (h | h)
    · rw [show (⟨l.bi, l.bt, l.es.take k⟩ : Lg).es.length = k from hl, hd] at h
      omega
    · unfold room at h
      rw [hd] at h
      have := of_decide_eq_false h
      omega
  refine ⟨hE, ?_⟩
  unfold rExtL
  rw [if_pos hE]
  show (⟨l.bi, l.bt, l.es.take k ++ l.es.drop k⟩ : Lg) = l
  rw [List.take_append_drop]
theorem com_right : right ⟨l.bi + k, l.T k, l.es.drop k⟩ = true := by
  obtain ⟨h1, h2, h3, h4⟩ := right_parts hr
  have hd : (l.es.drop k).length = l.es.length - k := List.length_drop
  refine right_mk ?_ (by show (l.es.drop k).length ≤ 16; omega) (behind_drop _ _ _ h3 hk) (by show l.bi + k + ((l.es.drop k).length : Int) ≤ _; rw [hd]; omega)
  show l.bi + k = 0 ↔ l.T k = 0
  cases k with
  | zero => simpa [Lg.T, spT] using h1
  | succ k =>
    have := behind_term l.es l.bt k h3 (by omega)
    have e : l.T (k + 1) = (l.es.getD k e0).t := rfl
    rw [e]
    constructor
    · intro h; omega
    · intro h; exact absurd h this
omit hr h0 in
theorem com_last : (⟨l.bi + k, l.T k, l.es.drop k⟩ : Lg).lastI = l.lastI ∧ (⟨l.bi + k, l.T k, l.es.drop k⟩ : Lg).lastT = l.lastT := by
  have hd : (l.es.drop k).length = l.es.length - k := List.length_drop
  constructor
  · have e1 : (⟨l.bi + k, l.T k, l.es.drop k⟩ : Lg).lastI = spI (l.bi + k) (l.es.length - k) := by unfold Lg.lastI Lg.I; rw [show (⟨l.bi + k, l.T k, l.es.drop k⟩ : Lg).es.length = l.es.length - k from hd]
    rw [e1]
    show _ = spI l.bi l.es.length
    unfold spI
    congr 1
    omega
  · have e1 : (⟨l.bi + k, l.T k, l.es.drop k⟩ : Lg).lastT = spT (l.T k) (l.es.drop k) (l.es.length - k) := by unfold Lg.lastT Lg.T; rw [show (⟨l.bi + k, l.T k, l.es.drop k⟩ : Lg).es.length = l.es.length - k from hd]
    rw [e1]
    show spT (spT l.bt l.es k) (l.es.drop k) _ = spT l.bt l.es l.es.length
    rw [spT_drop, show k + (l.es.length - k) = l.es.length by omega]
end

/-- What a spot of a log that may be tells. -/
theorem spot_at {l : Lg} (hr : right l = true) (h0 : 0 ≤ l.bi) {i : Int} (hi : 0 ≤ i) (hi' : i < 18446744073709551616) :
    (spotE l i = 0 ↔ l.bi ≤ i ∧ i ≤ l.bi + l.es.length) ∧ (spotE l i = 0 → i = l.bi + spotN l i ∧ spotN l i ≤ l.es.length ∧ spotT l i = l.T (spotN l i)) := by
  have hn := numB_right hr h0 hi hi'
  have hnum : l.num i = numB l.bi l.es.length i := rfl
  by_cases hc : l.bi ≤ i ∧ i ≤ l.bi + l.es.length
  · rw [if_pos hc] at hn
    have hE : spotE l i = 0 := by unfold spotE; rw [if_pos hr, hnum, hn]; rfl
    have hN : spotN l i = (i - l.bi).toNat := by unfold spotN; rw [if_pos hE, hnum, hn]; rfl
    refine ⟨⟨fun _ => hc, fun _ => hE⟩, fun _ => ⟨by rw [hN]; omega, by rw [hN]; omega, (spot_ok hE).2.2.2⟩⟩
  · rw [if_neg hc] at hn
    have hE : spotE l i = 4 := by unfold spotE; rw [if_pos hr, hnum, hn]; rfl
    refine ⟨⟨fun h => ?_, fun h => absurd h hc⟩, fun h => ?_⟩
    · rw [hE] at h; cases h
    · rw [hE] at h; cases h

theorem term_in {l : Lg} (hr : right l = true) (h0 : 0 ≤ l.bi) {k : Nat} (hk : k ≤ l.es.length) : spotE l (l.bi + k) = 0 ∧ spotT l (l.bi + k) = l.T k := by
  have hp := (right_parts hr).2.2.2
  have hs := spot_at hr h0 (i := l.bi + k) (by omega) (by omega)
  have hE := hs.1.2 ⟨by omega, by omega⟩
  obtain ⟨h1, h2, h3⟩ := hs.2 hE
  refine ⟨hE, ?_⟩
  rw [h3, show spotN l (l.bi + k) = k by omega]
/-- Of a log given up at its beginning. -/
theorem term_com {l : Lg} (hr : right l = true) (h0 : 0 ≤ l.bi) {k j : Nat} (hk : k ≤ l.es.length) (hj : j ≤ l.es.length) :
    (spotE ⟨l.bi + k, l.T k, l.es.drop k⟩ (l.bi + j) == 0) = decide (l.bi + k ≤ l.bi + j) ∧ (l.bi + k ≤ l.bi + j → spotT ⟨l.bi + k, l.T k, l.es.drop k⟩ (l.bi + j) = l.T j) := by
  have hz := com_right hr h0 hk
  have hp := (right_parts hr).2.2.2
  have hd : (l.es.drop k).length = l.es.length - k := List.length_drop
  have hs := spot_at hz (show 0 ≤ l.bi + k by omega) (i := l.bi + j) (by omega) (by omega)
  simp only [hd] at hs
  by_cases hc : k ≤ j
  · have hE := hs.1.2 ⟨by omega, by omega⟩
    obtain ⟨h1, h2, h3⟩ := hs.2 hE
    refine ⟨by rw [hE, decide_eq_true (by omega)]; rfl, fun _ => ?_⟩
    rw [h3, show spotN ⟨l.bi + k, l.T k, l.es.drop k⟩ (l.bi + j) = j - k by omega]
    show spT (spT l.bt l.es k) (l.es.drop k) (j - k) = spT l.bt l.es j
    rw [spT_drop, show k + (j - k) = j by omega]
  · have hE : spotE ⟨l.bi + k, l.T k, l.es.drop k⟩ (l.bi + j) ≠ 0 := fun h => by have := hs.1.1 h; omega
    refine ⟨?_, fun h => by omega⟩
    rw [decide_eq_false (by omega)]
    simpa using hE

end Go.Proofs.Ytmgaihdepglahaa
