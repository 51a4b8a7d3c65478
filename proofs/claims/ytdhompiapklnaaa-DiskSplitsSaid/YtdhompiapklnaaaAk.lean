/-
  A request: how it goes, and what is done.
-/
import Derived.Test.YtdhompiapklnaaaCr
namespace Go.Proofs.Ytdhompiapklnaaa
open Go.RowKit

theorem ask_nil (ch : Bool) (i : Int) (v : Value) (w : World) : Calls Try.prog 49 #[.pointer none, .bool ch, .int .i64 i, v] w fun e w' => e = .returned (.int .i64 1) ∧ w = w' := by
  go_enter Try.func49, Try.ntmps49
  go_wp2_with (go_at_call 61; refine (power_nil _).mono ?_; rintro e w' ⟨rfl, rfl⟩)
  go_ret
  exact ⟨rfl, rfl⟩

set_option maxHeartbeats 2000000 in
/-- A request that does not go well. -/
theorem ask_err (f : FuncId) (caps : Array Value) (ch : Bool) (i : Int) (w : World) (base p gs : Nat) (S : DSt) (h : Dk w base p gs S) (he : askErr S ch i ≠ 0) :
    Calls Try.prog 49 #[.pointer (some ⟨p, 0, none⟩), .bool ch, .int .i64 i, .func (.func f) #[] caps] w (Left w base p gs (askSt S ch i) (askErr S ch i)) := by
  obtain ⟨cs, vq, hb, _⟩ := h.own
  have hp := hb.lt
  have f3 := hb.frozen 3
  have f4 := hb.frozen 4
  have h0 : w.cell? ⟨p, 0, none⟩ = some (.slice (some ⟨gs, 0, none⟩) S.has.length cs) := hb.cell 0
  have h2 : w.cell? ⟨p, 2, none⟩ = some (.int .i64 S.armed) := hb.cell 2
  have h3 : w.cell? ⟨p, 3, none⟩ = some (.int .i64 S.doomed) := hb.cell 3
  have h4 : w.cell? ⟨p, 4, none⟩ = some (.bool S.dead) := hb.cell 4
  by_cases hd : S.dead = true
  · have fin : Left w base p gs (askSt S ch i) (askErr S ch i) (.returned (.int .i64 9)) w := by
      rw [show askErr S ch i = 9 by simp [askErr, hd], show askSt S ch i = S by simp [askSt, hd]]
      exact ⟨rfl, h, Fr.refl _ _ _ _⟩
    rw [hd] at h4
    have F := Lib.hid fin
    clear fin h hb he hd
    go_enter Try.func49, Try.ntmps49
    go_wp2_with (go_at_call 61; refine (power_dead _ _ h4).mono ?_; rintro e w' ⟨rfl, rfl⟩)
    go_ret
    exact F.out
  · have hd' : S.dead = false := by simpa using hd
    rw [hd'] at h4
    by_cases hr : 0 ≤ i ∧ i < S.has.length
    · obtain ⟨hr0, hr1⟩ := hr
      by_cases ha : ch = true ∧ S.armed = 0
      · have fin : Left w base p gs (askSt S ch i) (askErr S ch i) (.returned (.int .i64 9)) (w.setCell ⟨p, 4, none⟩ (.bool true)) := by
          rw [show askErr S ch i = 9 by simp [askErr, hd', hr0, hr1, ha], show askSt S ch i = { S with dead := true } by simp [askSt, hd', hr0, hr1, ha]]
          exact ⟨rfl, h.turn (fun cs vq hb => hb.set_ 4 _) (fun k hk => Below.heap_setCell w _ _ k hk) rfl rfl ⟨h.ok.has, h.ok.q, h.ok.armed, h.ok.doomed, h.ok.armed', h.ok.doomed'⟩, (Fr.refl _ _ _ _).set h.base _ _⟩
        obtain ⟨rfl, ha⟩ := ha
        rw [ha] at h2
        have F := Lib.hid fin
        clear fin h hb he hd hd' ha
        have hn0 : ¬ (i < 0) := by omega
        have hn1 : ¬ ((S.has.length : Int) ≤ i) := by omega
        go_enter Try.func49, Try.ntmps49
        go_wp2_with (first | (go_at_call 61; refine (power_ok _ _ h4).mono ?_; rintro e w' ⟨rfl, rfl⟩) | (go_at_call 62; refine (meet_dead _ _ h2).mono ?_; rintro e w' ⟨rfl, rfl⟩))
        go_ret
        exact F.out
      · by_cases hz : S.doomed = 0
        · have fin : Left w base p gs (askSt S ch i) (askErr S ch i) (.returned (.int .i64 8)) ((w.setCell ⟨p, 3, none⟩ (.int .i64 (-1))).setCell ⟨p, 4, none⟩ (.bool false)) := by
            rw [show askErr S ch i = 8 by simp only [askErr]; rw [if_neg (by simp [hd']), if_pos ⟨hr0, hr1⟩, if_neg ha, if_pos hz], show askSt S ch i = { S with doomed := -1 } by simp only [askSt]; rw [if_neg (by simp [hd']), if_pos ⟨hr0, hr1⟩, if_neg ha, if_pos hz]]
            refine ⟨rfl, h.turn (fun cs vq hb => ?_) (fun k hk => ?_) rfl rfl ⟨h.ok.has, h.ok.q, h.ok.armed, by simp, h.ok.armed', by simp⟩, ((Fr.refl _ _ _ _).set h.base _ _).set h.base _ _⟩
            · have := (hb.set_ 3 (.int .i64 (-1))).set_ 4 (.bool false)
              simpa [dcells, hd'] using this
            · rw [Below.heap_setCell _ _ _ k hk, Below.heap_setCell _ _ _ k hk]
          have hm : ch = false ∨ (S.armed == 0) = false := by
            cases ch with
            | false => exact .inl rfl
            | true => exact .inr (by simpa using ha)
          rw [hz] at h3
          have F := Lib.hid fin
          have HM := Lib.hid hm
          clear fin h hb he hd hd' hz ha hm
          have hn0 : ¬ (i < 0) := by omega
          have hn1 : ¬ ((S.has.length : Int) ≤ i) := by omega
          go_enter Try.func49, Try.ntmps49
          go_wp2_with (first | (go_at_call 61; refine (power_ok _ _ h4).mono ?_; rintro e w' ⟨rfl, rfl⟩) | (go_at_call 62; refine (meet_io _ _ _ _ HM.out h2 h3 f3).mono ?_; rintro e w' ⟨rfl, rfl⟩))
          go_ret
          exact F.out
        · exact absurd (by simp only [askErr]; rw [if_neg (by simp [hd']), if_pos ⟨hr0, hr1⟩, if_neg ha, if_neg hz]) he
    · have fin : Left w base p gs (askSt S ch i) (askErr S ch i) (.returned (.int .i64 2)) w := by
        rw [show askErr S ch i = 2 by simp only [askErr]; rw [if_neg (by simp [hd']), if_neg hr], show askSt S ch i = S by simp only [askSt]; rw [if_neg (by simp [hd']), if_neg hr]]
        exact ⟨rfl, h, Fr.refl _ _ _ _⟩
      have F := Lib.hid fin
      clear fin h hb he hd hd'
      by_cases hn0 : i < 0
      · clear hr
        go_enter Try.func49, Try.ntmps49
        go_wp2_with (go_at_call 61; refine (power_ok _ _ h4).mono ?_; rintro e w' ⟨rfl, rfl⟩)
        go_ret
        exact F.out
      · have hn1 : (S.has.length : Int) ≤ i := by omega
        clear hr
        go_enter Try.func49, Try.ntmps49
        go_wp2_with (go_at_call 61; refine (power_ok _ _ h4).mono ?_; rintro e w' ⟨rfl, rfl⟩)
        go_ret
        exact F.out

end Go.Proofs.Ytdhompiapklnaaa
