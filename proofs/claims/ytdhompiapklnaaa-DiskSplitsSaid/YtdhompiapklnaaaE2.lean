/-
  The document's Asked, of whatever disk; Reads.
-/
import Derived.Test.YtdhompiapklnaaaE1
namespace Go.Proofs.Ytdhompiapklnaaa
open Go.RowKit
attribute [local go_sem ↓] Try.z39 Try.z86 Try.z75 Try.z32

/-- What Asked leaves: the document's disk S', its sectors and queue where they were. -/
def RAsked (w : World) (Ah : Option Addr) (nh ch : Nat) (Aq : Option Addr) (nq cq : Nat) (S' : DSt) (er : Int) (e : Ending) (w' : World) : Prop :=
  ∃ dm, (S'.dead = false → dm = S'.doomed) ∧ e = .returned (.tuple #[.agg (rrow Ah nh ch Aq nq cq S'.armed dm S'.dead S'.ops).toArray, .int .i64 er]) ∧ Below w.heap.size w w'

theorem refasked_any (Ah : Option Addr) (ch : Nat) (Aq : Option Addr) (nq cq : Nat) (S : DSt) (ok : S.ok) (hn : S.has.length ≤ 9223372036854775807) (dm i : Int) (c : Bool) (w : World) (hd : S.dead = false → dm = S.doomed) :
    Calls Try.prog 59 #[.agg (rrow Ah S.has.length ch Aq nq cq S.armed dm S.dead S.ops).toArray, .int .i64 i, .bool c] w (RAsked w Ah S.has.length ch Aq nq cq (askSt S c i) (askErr S c i)) := by
  obtain ⟨has, q, ar, doo, dead, ops⟩ := S
  have h3 := ok.armed
  have h4 := ok.armed'
  have h1 := ok.doomed
  have h2 := ok.doomed'
  dsimp only at *
  cases dead with
  | true =>
    refine (asked_dead Ah has.length ch Aq nq cq ar dm ops i c w).mono fun e w' ⟨he, hb⟩ => ⟨dm, fun h => ?_, ?_, hb⟩
    · simp [askSt] at h
    · rw [he]; simp [askSt, askErr]
  | false =>
    obtain rfl := hd rfl
    by_cases hi0 : i < 0
    · refine (asked_low Ah has.length ch Aq nq cq ar dm ops i c hi0 w).mono fun e w' ⟨he, hb⟩ => ⟨dm, fun h => ?_, ?_, hb⟩
      · simp [askSt, show ¬ (0 ≤ i) by omega]
      · rw [he]; simp [askSt, askErr, show ¬ (0 ≤ i) by omega]
    · by_cases hi1 : (has.length : Int) ≤ i
      · refine (asked_high Ah has.length ch Aq nq cq ar dm ops i c (by omega) hi1 w).mono fun e w' ⟨he, hb⟩ => ⟨dm, fun h => ?_, ?_, hb⟩
        · simp [askSt, show ¬ (i < (has.length : Int)) by omega]
        · rw [he]; simp [askSt, askErr, show ¬ (i < (has.length : Int)) by omega]
      · have in0 : 0 ≤ i := by omega
        have in1 : i < (has.length : Int) := by omega
        cases c with
        | true =>
          by_cases ha : ar = 0
          · have a0 : (ar == 0) = true := beq_iff_eq.2 ha
            by_cases hd0 : 0 ≤ dm
            · refine (asked_armeda Ah has.length ch Aq nq cq ar dm ops i h1 h2 h3 h4 in0 in1 hn a0 hd0 w).mono fun e w' ⟨he, hb⟩ => ⟨dm - 1, fun h => ?_, ?_, hb⟩
              · simp [askSt, in0, in1, ha] at h
              · rw [he]; simp [askSt, askErr, in0, in1, ha]
            · refine (asked_armedb Ah has.length ch Aq nq cq ar dm ops i h1 h2 h3 h4 in0 in1 hn a0 (by omega) w).mono fun e w' ⟨he, hb⟩ => ⟨-1, fun h => ?_, ?_, hb⟩
              · simp [askSt, in0, in1, ha] at h
              · rw [he]; simp [askSt, askErr, in0, in1, ha]
          · have a0 : (ar == 0) = false := beq_eq_false_iff_ne.2 ha
            by_cases hd0 : dm = 0
            · have g0 : (dm == 0) = true := beq_iff_eq.2 hd0
              refine (asked_doomedT Ah has.length ch Aq nq cq ar dm ops i h1 h2 h3 h4 in0 in1 hn a0 g0 (by omega) w).mono fun e w' ⟨he, hb⟩ => ⟨dm - 1, fun h => ?_, ?_, hb⟩
              · simp [askSt, in0, in1, ha, hd0]
              · rw [he]; simp [askSt, askErr, in0, in1, ha, hd0]
            · have g0 : (dm == 0) = false := beq_eq_false_iff_ne.2 hd0
              by_cases hd1 : 0 ≤ dm <;> by_cases ha1 : 0 ≤ ar
              · refine (asked_goesTaa Ah has.length ch Aq nq cq ar dm ops i h1 h2 h3 h4 in0 in1 hn a0 g0 hd1 ha1 w).mono fun e w' ⟨he, hb⟩ => ⟨dm - 1, fun h => ?_, ?_, hb⟩
                · simp [askSt, in0, in1, ha, hd0, less, show 0 < dm by omega]
                · rw [he]; simp [askSt, askErr, in0, in1, ha, hd0, less, show 0 < ar by omega]
              · refine (asked_goesTab Ah has.length ch Aq nq cq ar dm ops i h1 h2 h3 h4 in0 in1 hn a0 g0 hd1 (by omega) w).mono fun e w' ⟨he, hb⟩ => ⟨dm - 1, fun h => ?_, ?_, hb⟩
                · simp [askSt, in0, in1, ha, hd0, less, show 0 < dm by omega]
                · obtain rfl : ar = -1 := by omega
                  rw [he]; simp [askSt, askErr, in0, in1, hd0, less]
              · refine (asked_goesTba Ah has.length ch Aq nq cq ar dm ops i h1 h2 h3 h4 in0 in1 hn a0 g0 (by omega) ha1 w).mono fun e w' ⟨he, hb⟩ => ⟨-1, fun h => ?_, ?_, hb⟩
                · simp [askSt, in0, in1, ha, hd0, less, show ¬ 0 < dm by omega]; omega
                · rw [he]; simp [askSt, askErr, in0, in1, ha, hd0, less, show 0 < ar by omega]
              · refine (asked_goesTbb Ah has.length ch Aq nq cq ar dm ops i h1 h2 h3 h4 in0 in1 hn a0 g0 (by omega) (by omega) w).mono fun e w' ⟨he, hb⟩ => ⟨-1, fun h => ?_, ?_, hb⟩
                · simp [askSt, in0, in1, ha, hd0, less, show ¬ 0 < dm by omega]; omega
                · obtain rfl : ar = -1 := by omega
                  rw [he]; simp [askSt, askErr, in0, in1, hd0, less]
        | false =>
          by_cases hd0 : dm = 0
          · have g0 : (dm == 0) = true := beq_iff_eq.2 hd0
            refine (asked_doomedF Ah has.length ch Aq nq cq ar dm ops i h1 h2 h3 h4 in0 in1 hn g0 (by omega) w).mono fun e w' ⟨he, hb⟩ => ⟨dm - 1, fun h => ?_, ?_, hb⟩
            · simp [askSt, in0, in1, hd0]
            · rw [he]; simp [askSt, askErr, in0, in1, hd0]
          · have g0 : (dm == 0) = false := beq_eq_false_iff_ne.2 hd0
            by_cases hd1 : 0 ≤ dm
            · refine (asked_goesFa Ah has.length ch Aq nq cq ar dm ops i h1 h2 h3 h4 in0 in1 hn g0 hd1 w).mono fun e w' ⟨he, hb⟩ => ⟨dm - 1, fun h => ?_, ?_, hb⟩
              · simp [askSt, in0, in1, hd0, less, show 0 < dm by omega]
              · rw [he]; simp [askSt, askErr, in0, in1, hd0]
            · refine (asked_goesFb Ah has.length ch Aq nq cq ar dm ops i h1 h2 h3 h4 in0 in1 hn g0 (by omega) w).mono fun e w' ⟨he, hb⟩ => ⟨-1, fun h => ?_, ?_, hb⟩
              · simp [askSt, in0, in1, hd0, less, show ¬ 0 < dm by omega]; omega
              · rw [he]; simp [askSt, askErr, in0, in1, hd0]

end Go.Proofs.Ytdhompiapklnaaa
