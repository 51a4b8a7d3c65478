/-
  Arm, Fail; the sectors of a queue.
-/
import Derived.Test.YtdhompiapklnaaaD1
namespace Go.Proofs.Ytdhompiapklnaaa
open Go.RowKit

/-- What Arm and Fail leave. -/
def Setd (w : World) (base p gs : Nat) (S S' : DSt) (e : Ending) (w' : World) : Prop := e = .returned (.int .i64 (setErr S)) ∧ Dk w' base p gs S' ∧ Fr base p gs w w'

theorem armD (n : Int) (w : World) (base p gs : Nat) (S : DSt) (h : Dk w base p gs S) (hn : n ≤ 9223372036854775807) :
    Calls Try.prog 27 #[.pointer (some ⟨p, 0, none⟩), .int .i64 n] w (Setd w base p gs S (armSt S n)) := by
  obtain ⟨cs, vq, hb, _⟩ := h.own
  have f2 := hb.frozen 2
  have h2 : w.cell? ⟨p, 2, none⟩ = some (.int .i64 S.armed) := hb.cell 2
  have h4 : w.cell? ⟨p, 4, none⟩ = some (.bool S.dead) := hb.cell 4
  cases hd : S.dead with
  | true =>
    have fin : Setd w base p gs S (armSt S n) (.returned (.int .i64 9)) w := ⟨by simp [setErr, hd], by simpa [armSt, hd] using h, Fr.refl _ _ _ _⟩
    rw [hd] at h4
    have F := Lib.hid fin
    clear fin h hb hd
    go_enter Try.func27, Try.ntmps27
    go_wp2_with (first | (go_at_call 61; refine (power_dead _ _ h4).mono ?_; rintro e w' ⟨rfl, rfl⟩) | go_in)
    go_ret
    exact F.out
  | false =>
    have fin : Setd w base p gs S (armSt S n) (.returned (.int .i64 0)) (w.setCell ⟨p, 2, none⟩ (.int .i64 (atl n))) := by
      have ha := atl_ok n hn
      refine ⟨by simp [setErr, hd], ?_, (Fr.refl _ _ _ _).set h.base _ _⟩
      rw [show armSt S n = { S with armed := atl n } by unfold armSt; rw [if_neg (by simp [hd])]]
      exact h.turn (fun cs vq hb => hb.set_ 2 _) (fun k hk => Below.heap_setCell w _ _ k hk) rfl rfl ⟨h.ok.has, h.ok.q, ha.1, h.ok.doomed, ha.2, h.ok.doomed'⟩
    rw [hd] at h4
    have F := Lib.hid fin
    clear fin h hb hd
    go_enter Try.func27, Try.ntmps27
    go_wp2_with (first | (go_at_call 61; refine (power_ok _ _ h4).mono ?_; rintro e w' ⟨rfl, rfl⟩) | (go_at_call 47; refine (arm_any _ _ _ _ h2 f2).mono ?_; rintro e w' ⟨⟨v, rfl⟩, rfl⟩) | go_in)
    go_ret
    exact F.out
theorem failD (n : Int) (w : World) (base p gs : Nat) (S : DSt) (h : Dk w base p gs S) (hn : n ≤ 9223372036854775807) :
    Calls Try.prog 28 #[.pointer (some ⟨p, 0, none⟩), .int .i64 n] w (Setd w base p gs S (failSt S n)) := by
  obtain ⟨cs, vq, hb, _⟩ := h.own
  have f2 := hb.frozen 3
  have h2 : w.cell? ⟨p, 3, none⟩ = some (.int .i64 S.doomed) := hb.cell 3
  have h4 : w.cell? ⟨p, 4, none⟩ = some (.bool S.dead) := hb.cell 4
  cases hd : S.dead with
  | true =>
    have fin : Setd w base p gs S (failSt S n) (.returned (.int .i64 9)) w := ⟨by simp [setErr, hd], by simpa [failSt, hd] using h, Fr.refl _ _ _ _⟩
    rw [hd] at h4
    have F := Lib.hid fin
    clear fin h hb hd
    go_enter Try.func28, Try.ntmps28
    go_wp2_with (first | (go_at_call 61; refine (power_dead _ _ h4).mono ?_; rintro e w' ⟨rfl, rfl⟩) | go_in)
    go_ret
    exact F.out
  | false =>
    have fin : Setd w base p gs S (failSt S n) (.returned (.int .i64 0)) (w.setCell ⟨p, 3, none⟩ (.int .i64 (atl n))) := by
      have ha := atl_ok n hn
      refine ⟨by simp [setErr, hd], ?_, (Fr.refl _ _ _ _).set h.base _ _⟩
      rw [show failSt S n = { S with doomed := atl n } by unfold failSt; rw [if_neg (by simp [hd])]]
      exact h.turn (fun cs vq hb => hb.set_ 3 _) (fun k hk => Below.heap_setCell w _ _ k hk) rfl rfl ⟨h.ok.has, h.ok.q, h.ok.armed, ha.1, h.ok.armed', ha.2⟩
    rw [hd] at h4
    have F := Lib.hid fin
    clear fin h hb hd
    go_enter Try.func28, Try.ntmps28
    go_wp2_with (first | (go_at_call 61; refine (power_ok _ _ h4).mono ?_; rintro e w' ⟨rfl, rfl⟩) | (go_at_call 48; refine (doom_any _ _ _ _ h2 f2).mono ?_; rintro e w' ⟨⟨v, rfl⟩, rfl⟩) | go_in)
    go_ret
    exact F.out

end Go.Proofs.Ytdhompiapklnaaa
