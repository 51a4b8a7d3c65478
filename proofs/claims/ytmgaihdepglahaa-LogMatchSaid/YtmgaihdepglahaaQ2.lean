/-
  Plain facts on offers: what a log that takes one is then.
-/
import Derived.Test.YtmgaihdepglahaaQT
namespace Go.Proofs.Ytmgaihdepglahaa

theorem rHas_iff {l : Lg} (hr : right l = true) (h0 : 0 ≤ l.bi) {i t : Int} (hi : 0 ≤ i) (hi' : i < 18446744073709551616) :
    rHas l i t = true ↔ ∃ k : Nat, k ≤ l.es.length ∧ i = l.bi + k ∧ l.T k = t := by
  unfold rHas Lg.num
  rw [numB_right hr h0 hi hi']
  by_cases hc : l.bi ≤ i ∧ i ≤ l.bi + l.es.length
  · rw [if_pos hc]
    simp only [decide_eq_true_eq]
    constructor
    · intro h
      exact ⟨_, by omega, by omega, h⟩
    · rintro ⟨k, h1, h2, h3⟩
      rw [show (i - l.bi).toNat = k by omega]
      exact h3
  · rw [if_neg hc]
    simp only [Bool.false_eq_true, false_iff]
    rintro ⟨k, h1, h2, h3⟩
    exact hc ⟨by omega, by omega⟩

theorem spT_succ (pt : Int) (e : En) (r : List En) (j : Nat) : spT pt (e :: r) (j + 1) = spT e.t r j := by cases j <;> rfl
theorem spT_app_left (bt : Int) (a b : List En) {k : Nat} (h : k ≤ a.length) : spT bt (a ++ b) k = spT bt a k := by
  cases k with
  | zero => rfl
  | succ k =>
    show ((a ++ b).getD k e0).t = (a.getD k e0).t
    rw [List.getD_eq_getElem?_getD, List.getD_eq_getElem?_getD, List.getElem?_append_left (by omega)]
theorem spT_app_right (bt : Int) (a b : List En) (j : Nat) : spT bt (a ++ b) (a.length + (j + 1)) = (b.getD j e0).t := by
  show ((a ++ b).getD (a.length + j) e0).t = (b.getD j e0).t
  rw [List.getD_eq_getElem?_getD, List.getD_eq_getElem?_getD, List.getElem?_append_right (by omega), show a.length + j - a.length = j by omega]
theorem behind_app : ∀ (a b : List En) (t : Int), behind t a = true → behind (spT t a a.length) b = true → behind t (a ++ b) = true
  | [], _, _, _, h => h
  | e :: r, b, t, h, h' => by
    simp only [behind, Bool.and_eq_true] at h
    rw [List.cons_append]
    simp only [behind, Bool.and_eq_true]
    rw [show (e :: r).length = r.length + 1 from rfl, spT_succ] at h'
    exact ⟨h.1, h.2.1, behind_app r b e.t h.2.2 h'⟩

/-- Of a log that may be, extended. -/
theorem ext_right {l : Lg} (hr : right l = true) (h0 : 0 ≤ l.bi) {more : List En} (hE : rExtE l more = 0) :
    rExtL l more = ⟨l.bi, l.bt, l.es ++ more⟩ ∧ right ⟨l.bi, l.bt, l.es ++ more⟩ = true ∧ l.es.length + more.length ≤ 16 := by
  obtain ⟨h1, h2, h3, h4⟩ := right_parts hr
  refine ⟨by unfold rExtL; rw [if_pos hE], ?_⟩
  unfold rExtE at hE
  by_cases hb : behind l.lastT more = false
  · rw [if_pos hb] at hE; omega
  · rw [if_neg hb] at hE
    by_cases hf : 16 < l.es.length + more.length ∨ room l.lastI more.length = false
    · rw [if_pos hf] at hE; omega
    · have hlen : l.es.length + more.length ≤ 16 := Nat.le_of_not_lt (fun h => hf (Or.inl h))
      have hroom : room l.lastI more.length = true := by
        cases h : room l.lastI more.length with
        | true => rfl
        | false => exact absurd (Or.inr h) hf
      unfold room at hroom
      have hI : l.lastI = l.bi + l.es.length := spI_right hr h0 (Nat.le_refl _)
      rw [hI] at hroom
      have hroom := of_decide_eq_true hroom
      refine ⟨right_mk h1 ?_ ?_ ?_, hlen⟩
      · show (l.es ++ more).length ≤ 16
        rw [List.length_append]; exact hlen
      · exact behind_app _ _ _ h3 (show behind l.lastT more = true by simpa using hb)
      · show l.bi + ((l.es ++ more).length : Int) ≤ _
        rw [List.length_append]
        omega

theorem metN_spec (l : Lg) : ∀ (es : List En) (pi pt : Int), 0 ≤ pi → pi + es.length ≤ 18446744073709551614 →
    (∀ j : Nat, 1 ≤ j → j ≤ metN l pi es → met1 l (pi + j) (spT pt es j) = true) ∧ (metN l pi es < es.length → met1 l (pi + (metN l pi es + 1 : Nat)) (spT pt es (metN l pi es + 1)) = false)
  | [], _, _, _, _ => by
    refine ⟨fun j h1 h2 => ?_, fun h => absurd h (Nat.not_lt_zero _)⟩
    have : j ≤ 0 := h2
    omega
  | e :: r, pi, pt, h0, h1 => by
    have hl : ((e :: r).length : Int) = (r.length : Int) + 1 := by simp
    have hp : (pi + 1) % 18446744073709551616 = pi + 1 := by omega
    have hm : metN l pi (e :: r) = if met1 l (pi + 1) e.t = true then metN l (pi + 1) r + 1 else 0 := by rw [metN, hp]
    obtain ⟨ih1, ih2⟩ := metN_spec l r (pi + 1) e.t (by omega) (by omega)
    by_cases hc : met1 l (pi + 1) e.t = true
    · rw [hm, if_pos hc]
      refine ⟨fun j hj hj' => ?_, fun h => ?_⟩
      · obtain ⟨j, rfl⟩ : ∃ i, j = i + 1 := ⟨j - 1, by omega⟩
        rw [spT_succ]
        cases j with
        | zero => exact hc
        | succ j =>
          have := ih1 (j + 1) (by omega) (by omega)
          rwa [show pi + 1 + ((j + 1 : Nat) : Int) = pi + ((j + 1 + 1 : Nat) : Int) by omega] at this
      · have := ih2 (by simpa using h)
        rw [spT_succ]
        rwa [show pi + 1 + ((metN l (pi + 1) r + 1 : Nat) : Int) = pi + ((metN l (pi + 1) r + 1 + 1 : Nat) : Int) by omega] at this
    · rw [hm, if_neg hc]
      refine ⟨fun j hj hj' => by omega, fun _ => ?_⟩
      have : met1 l (pi + 1) e.t = false := by simpa using hc
      exact this

/-- What an offer that is not refused is. -/
structure Off (l : Lg) (pi pt : Int) (es : List En) (n : Nat) : Prop where
  r : right l = true
  b : behind pt es = true
  rm : pi + es.length ≤ 18446744073709551614
  p : l.bi ≤ pi → rHas l pi pt = true
  le : n ≤ es.length
  met : ∀ j : Nat, 1 ≤ j → j ≤ n → met1 l (pi + j) (spT pt es j) = true
  not : n < es.length → met1 l (pi + (n + 1 : Nat)) (spT pt es (n + 1)) = false
theorem Off.of {l : Lg} {pi pt : Int} {es : List En} (hp : 0 ≤ pi) (h : meetE l pi pt es = 0) : Off l pi pt es (meetN l pi pt es) := by
  have hr := meetE_right h
  have hN : meetN l pi pt es = rMeetN l pi pt es := by unfold meetN; rw [if_pos hr]
  unfold meetE at h
  rw [if_pos hr] at h
  have hN2 : rMeetN l pi pt es = metN l pi es := by unfold rMeetN; rw [if_pos h]
  rw [hN, hN2]
  unfold rMeetE at h
  by_cases h1 : (behind pt es && room pi es.length) = false
  · rw [if_pos h1] at h; omega
  · rw [if_neg h1] at h
    have h1 : (behind pt es && room pi es.length) = true := by simpa using h1
    simp only [Bool.and_eq_true] at h1
    have hrm := of_decide_eq_true h1.2
    by_cases h2 : l.bi ≤ pi ∧ rHas l pi pt = false
    · rw [if_pos h2] at h; omega
    · obtain ⟨s1, s2⟩ := metN_spec l es pi pt hp hrm
      refine ⟨hr, h1.1, hrm, fun hb => ?_, metN_le _ _ _, s1, s2⟩
      cases hc : rHas l pi pt with
      | true => rfl
      | false => exact absurd ⟨hb, hc⟩ h2
/-- And back. -/
theorem Off.back {l : Lg} {pi pt : Int} {es : List En} {n : Nat} (hp : 0 ≤ pi) (h : Off l pi pt es n) : meetE l pi pt es = 0 ∧ meetN l pi pt es = n := by
  have hE : rMeetE l pi pt es = 0 := by
    have hrm : room pi es.length = true := decide_eq_true h.rm
    unfold rMeetE
    rw [h.b, hrm, if_neg (by simp), if_neg ?_]
    rintro ⟨h1, h2⟩
    rw [h.p h1] at h2
    cases h2
  have hE2 : meetE l pi pt es = 0 := by unfold meetE; rw [if_pos h.r, hE]
  refine ⟨hE2, ?_⟩
  unfold meetN rMeetN
  rw [if_pos h.r, if_pos hE]
  have hs : ∀ j : Nat, j ≤ es.length → spI pi j = pi + j := fun j hj => by have := h.rm; unfold spI; omega
  refine metN_eq l es pi pt n h.le (fun j h1 h2 => ?_) ?_
  · rw [hs j (by have := h.le; omega)]
    exact h.met j h1 h2
  · by_cases hn : n < es.length
    · refine Or.inr ?_
      rw [hs (n + 1) hn]
      exact h.not hn
    · exact Or.inl (by have := h.le; omega)

/-- Where the offer's first entry that is not met stands. -/
theorem Off.spot {l : Lg} {pi pt : Int} {es : List En} {n : Nat} (h : Off l pi pt es n) (hp : 0 ≤ pi) (h0 : 0 ≤ l.bi) (hn : n < es.length) :
    ∃ q : Nat, q ≤ l.es.length ∧ l.bi + q = pi + n ∧ spotN l (spI pi n) = q := by
  have hrm := h.rm
  have hnot := h.not hn
  unfold met1 at hnot
  simp only [Bool.or_eq_false_iff, decide_eq_false_iff_not] at hnot
  have hge : l.bi ≤ pi + n := by omega
  have hq : ∃ q : Nat, q ≤ l.es.length ∧ l.bi + q = pi + n := by
    by_cases hn0 : n = 0
    · subst hn0
      have := h.p (by simpa using hge)
      obtain ⟨k, h1, h2, _⟩ := (rHas_iff h.r h0 hp (by omega)).1 this
      exact ⟨k, h1, by omega⟩
    · have hm := h.met n (by omega) (Nat.le_refl _)
      unfold met1 at hm
      simp only [Bool.or_eq_true, decide_eq_true_eq] at hm
      rcases hm with hm | hm
      · exact ⟨0, Nat.zero_le _, by omega⟩
      · obtain ⟨k, h1, h2, _⟩ := (rHas_iff h.r h0 (by omega) (by omega)).1 hm
        exact ⟨k, h1, by omega⟩
  obtain ⟨q, h1, h2⟩ := hq
  refine ⟨q, h1, h2, ?_⟩
  have hs : spI pi n = pi + n := by unfold spI; omega
  have hb := (right_parts h.r).2.2.2
  have := spot_at h.r h0 (i := spI pi n) (by omega) (by omega)
  have hE := this.1.2 ⟨by omega, by omega⟩
  have := (this.2 hE).1
  omega

/-- What a log is behind an offer that it took. -/
structure Tkn (l x : Lg) (pi pt : Int) (es : List En) (n : Nat) : Prop where
  r : right l = true
  rx : right x = true
  bi : x.bi = l.bi
  bt : x.bt = l.bt
  n0 : n ≤ es.length
  rm : pi + es.length ≤ 18446744073709551614
  e : meetE x pi pt es = 0
  m : meetN x pi pt es = es.length
  was : ∀ k : Nat, k ≤ l.es.length → (n < es.length → l.bi + k ≤ pi + n) → k ≤ x.es.length ∧ x.T k = l.T k
  new : ∀ k : Nat, n ≤ k → k < es.length → rHas x (pi + k + 1) (es.getD k e0).t = true
  last : n < es.length → x.lastI = pi + es.length

theorem taken {l : Lg} {pi pt : Int} {es : List En} (h0 : 0 ≤ l.bi) (hp : 0 ≤ pi) (hE : pTakeE l pi pt es = 0) :
    meetE l pi pt es = 0 ∧ pTakeI l pi pt es = pi + es.length ∧ Tkn l (pTakeL l pi pt es) pi pt es (meetN l pi pt es) := by
  have hM : meetE l pi pt es = 0 := by
    unfold pTakeE at hE
    by_cases h : meetE l pi pt es ≠ 0
    · rw [if_pos h] at hE; exact hE
    · exact Decidable.not_not.mp h
  have hO := Off.of hp hM
  have hrm := hO.rm
  refine ⟨hM, ?_, ?_⟩
  · unfold pTakeI
    rw [if_neg (by rw [hE]; decide)]
    unfold spI
    omega
  · have hL : pTakeL l pi pt es = if meetN l pi pt es < es.length then rExtL (tkL l pi pt es) (es.drop (meetN l pi pt es)) else l := by
      unfold pTakeL
      rw [if_neg (by rw [hE]; decide)]
    have hE' : meetN l pi pt es < es.length → rExtE (tkL l pi pt es) (es.drop (meetN l pi pt es)) = 0 := fun h => by
      unfold pTakeE at hE
      rw [if_neg (by rw [hM]; decide), if_pos h] at hE
      exact hE
    have htk : tkL l pi pt es = ⟨l.bi, l.bt, l.es.take (spotN l (spI pi (meetN l pi pt es)))⟩ := rfl
    rw [hL]
    obtain ⟨n, hn⟩ : ∃ n, meetN l pi pt es = n := ⟨_, rfl⟩
    rw [htk] at hE' ⊢
    rw [hn] at hO hE' ⊢
    by_cases hlt : n < es.length
    rotate_left
    · rw [if_neg hlt]
      have hne : n = es.length := by have := hO.le; omega
      exact ⟨hO.r, hO.r, rfl, rfl, hO.le, hrm, hM, by rw [hn, hne], fun k hk _ => ⟨hk, rfl⟩, fun k h1 h2 => absurd h2 (by omega), fun h => absurd h hlt⟩
    · rw [if_pos hlt]
      have hE' := hE' hlt
      obtain ⟨q, hq, hqn, hqs⟩ := hO.spot hp h0 hlt
      rw [hqs] at hE' ⊢
      have hcr := cut_right hO.r hq
      obtain ⟨e1, e2, e3⟩ := ext_right hcr h0 hE'
      rw [e1]
      have hlq : (l.es.take q).length = q := by rw [List.length_take]; omega
      have hd : (es.drop n).length = es.length - n := List.length_drop
      have hxl : (l.es.take q ++ es.drop n).length = q + (es.length - n) := by rw [List.length_append, hlq, hd]
      have hxT : ∀ k, k ≤ q → spT l.bt (l.es.take q ++ es.drop n) k = spT l.bt l.es k := fun k hk => by
        rw [spT_app_left _ _ _ (by omega), spT_take _ _ hk]
      have hxN : ∀ k, n ≤ k → spT l.bt (l.es.take q ++ es.drop n) (q + (k + 1 - n)) = (es.getD k e0).t := fun k hk => by
        have := spT_app_right l.bt (l.es.take q) (es.drop n) (k - n)
        rw [hlq] at this
        rw [show q + (k + 1 - n) = q + (k - n + 1) by omega, this]
        simp only [List.getD_eq_getElem?_getD, List.getElem?_drop]
        rw [show n + (k - n) = k by omega]
      have hX : ∀ i t : Int, 0 ≤ i → i < 18446744073709551616 → ∀ k : Nat, k ≤ q + (es.length - n) → i = l.bi + k → spT l.bt (l.es.take q ++ es.drop n) k = t → rHas ⟨l.bi, l.bt, l.es.take q ++ es.drop n⟩ i t = true := fun i t hi hi' k hk hik ht =>
        (rHas_iff e2 h0 hi hi').2 ⟨k, by show k ≤ (l.es.take q ++ es.drop n).length; omega, hik, ht⟩
      have hOx : Off ⟨l.bi, l.bt, l.es.take q ++ es.drop n⟩ pi pt es es.length := by
        refine ⟨e2, hO.b, hrm, fun hb => ?_, Nat.le_refl _, fun j hj hj' => ?_, fun h => absurd h (Nat.lt_irrefl _)⟩
        · obtain ⟨k, k1, k2, k3⟩ := (rHas_iff hO.r h0 hp (by omega)).1 (hO.p hb)
          exact hX pi pt hp (by omega) k (by omega) k2 (by rw [hxT k (by omega)]; exact k3)
        · unfold met1
          simp only [Bool.or_eq_true, decide_eq_true_eq]
          by_cases hb : pi + (j : Int) ≤ l.bi
          · exact Or.inl hb
          · refine Or.inr ?_
            by_cases hjn : j ≤ n
            · have hm := hO.met j hj hjn
              unfold met1 at hm
              simp only [Bool.or_eq_true, decide_eq_true_eq] at hm
              obtain ⟨k, k1, k2, k3⟩ := (rHas_iff hO.r h0 (by omega) (by omega)).1 (hm.resolve_left hb)
              exact hX _ _ (by omega) (by omega) k (by omega) k2 (by rw [hxT k (by omega)]; exact k3)
            · obtain ⟨j, rfl⟩ : ∃ i, j = i + 1 := ⟨j - 1, by omega⟩
              exact hX _ _ (by omega) (by omega) (q + (j + 1 - n)) (by omega) (by omega) (hxN j (by omega))
      refine ⟨hO.r, e2, rfl, rfl, hO.le, hrm, (hOx.back hp).1, (hOx.back hp).2, fun k hk hk' => ?_, fun k h1 h2 => ?_, fun _ => ?_⟩
      · have := hk' hlt
        exact ⟨by show k ≤ (l.es.take q ++ es.drop n).length; omega, hxT k (by omega)⟩
      · exact hX _ _ (by omega) (by omega) (q + (k + 1 - n)) (by omega) (by omega) (hxN k h1)
      · rw [show (⟨l.bi, l.bt, l.es.take q ++ es.drop n⟩ : Lg).lastI = l.bi + (l.es.take q ++ es.drop n).length from spI_right e2 h0 (Nat.le_refl _), hxl]
        omega

end Go.Proofs.Ytmgaihdepglahaa
