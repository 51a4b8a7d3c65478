/-
  Which messages may be: plain facts for the document's Right.
-/
import Derived.Test.YtemfnckaehjhcaaDoorFG6
namespace Go.Proofs.YtemfnckaehjhcaaDoor
open Go.RowKit

/-- The entries behind a Term u may stand there, and none is of a Term above t. -/
def okE (t : Int) : Int → List En → Prop
  | _, [] => True
  | u, e :: r => rightE e = true ∧ u ≤ e.t ∧ e.t ≤ t ∧ okE t e.t r
theorem okE_iff (t : Int) : ∀ (es : List En) (u : Int), (u ≤ t ∧ okE t u es) ↔ (behind u es = true ∧ (⟨0, u, es⟩ : Lg).lastT ≤ t)
  | [], u => by
    unfold okE behind Lg.lastT Lg.T spT
    simp
  | e :: r, u => by
    have h := okE_iff t r e.t
    have hT : (⟨0, u, e :: r⟩ : Lg).lastT = (⟨0, e.t, r⟩ : Lg).lastT := by
      unfold Lg.lastT Lg.T
      cases r with
      | nil => simp [spT]
      | cons a s => simp [spT]
    rw [hT]
    unfold okE behind
    simp only [Bool.and_eq_true, decide_eq_true_eq]
    constructor
    · rintro ⟨h1, h2, h3, h4, h5⟩
      obtain ⟨h6, h7⟩ := h.1 ⟨h4, h5⟩
      exact ⟨⟨h2, h3, h6⟩, h7⟩
    · rintro ⟨⟨h2, h3, h6⟩, h7⟩
      obtain ⟨h4, h5⟩ := h.2 ⟨h6, h7⟩
      exact ⟨by omega, h2, h3, h4, h5⟩
/-- What the document asks of a message, in its order. -/
structure Rt (m : Ms) : Prop where
  k : cntg m.kind ≠ 0
  z : zeroF m = true
  t1 : 1 ≤ m.t
  tm : m.t ≤ 4611686018427387904
  ne : m.fr ≠ m.to
  f1 : 1 ≤ m.fr
  f5 : m.fr ≤ 5
  o1 : 1 ≤ m.to
  o5 : m.to ≤ 5
  p : m.pi = 0 ↔ m.pt = 0
  pt : m.pt ≤ m.t
  s : m.kind = 5 → m.pi ≠ 0
  rm : m.pi + m.es.length ≤ 18446744073709551614
  n : m.es.length ≤ 8
  n1 : m.mem.length ≤ 5
  n2 : m.da.length ≤ 65536
  me : ∀ x ∈ m.mem, 1 ≤ x ∧ x ≤ 255
  es : okE m.t m.pt m.es
theorem right_iff (m : Ms) : rightM m = true ↔ Rt m := by
  have hE := okE_iff m.t m.es m.pt
  have hL : m.log.lastT = (⟨0, m.pt, m.es⟩ : Lg).lastT := rfl
  constructor
  · intro h
    unfold rightM headR offerR snapR memR at h
    simp only [Bool.and_eq_true, Bool.or_eq_true, decide_eq_true_eq, Bool.not_eq_true', decide_eq_false_iff_not, List.all_eq_true] at h
    obtain ⟨⟨⟨⟨⟨⟨⟨⟨hk, hf⟩, ht⟩, hne⟩, h1⟩, hm⟩, hz⟩, hes, hr, hl⟩, ⟨hs, hm5, hm1⟩, hd⟩ := h
    obtain ⟨r1, r2, r3, r4⟩ := right_parts hr
    simp only [Ms.log] at r1 r2 r3 r4
    rw [hL] at hl
    obtain ⟨g1, g2⟩ := hE.2 ⟨r3, hl⟩
    refine ⟨hk, hz, h1, hm, hne, hf.1, hf.2, ht.1, ht.2, r1, g1, fun e e2 => ?_, r4, hes, hm5, hd, hm1, g2⟩
    rcases hs with hs | hs
    · exact hs e
    · rw [decide_eq_true e2, decide_eq_true (r1.1 e2)] at hs
      cases hs
  · rintro ⟨hk, hz, h1, hm, hne, f1, f5, o1, o5, r1, g1, s, r4, hes, hm5, hd, hm1, g2⟩
    obtain ⟨r3, hl⟩ := hE.1 ⟨g1, g2⟩
    have hr : right m.log = true := right_mk r1 (by show m.es.length ≤ 16; omega) r3 r4
    unfold rightM headR offerR snapR memR
    simp only [Bool.and_eq_true, Bool.or_eq_true, decide_eq_true_eq, Bool.not_eq_true', List.all_eq_true]
    refine ⟨⟨⟨⟨⟨⟨⟨⟨hk, f1, f5⟩, o1, o5⟩, hne⟩, h1⟩, hm⟩, hz⟩, hes, hr, by rw [hL]; exact hl⟩, ⟨?_, hm5, hm1⟩, hd⟩
    by_cases e : m.kind = 5
    · right
      rw [decide_eq_false (s e)]
      rfl
    · exact .inl e
/-- The document's zero is the zero of the plain words. -/
theorem zeroG_zeroF (m : Ms) (h0 : 0 ≤ m.pi) (h1 : 0 ≤ m.pt) : zeroG (decide (cntg m.kind / 2 ^ 0 % 2 = 1)) (decide (cntg m.kind / 2 ^ 1 % 2 = 1)) (decide (cntg m.kind / 2 ^ 2 % 2 = 1)) (decide (cntg m.kind / 2 ^ 3 % 2 = 1)) (decide (cntg m.kind / 2 ^ 4 % 2 = 1)) (decide (cntg m.kind / 2 ^ 5 % 2 = 1)) m.ok m.pi m.pt m.co m.es.length m.mem.length m.da.length = zeroF m := by
  have e : (!(decide (0 < m.pi) || decide (0 < m.pt))) = (decide (m.pi = 0) && decide (m.pt = 0)) := by
    rw [Bool.eq_iff_iff]
    simp
    omega
  unfold zeroG zeroF
  rw [e]
  simp only [Nat.reducePow, Nat.div_one, Bool.and_assoc]

end Go.Proofs.YtemfnckaehjhcaaDoor
