/-
  The law OctetNone, walked.
-/
import Derived.Test.YtbjillkdhjndpaaNone
namespace Go.Proofs.Ytbjillkdhjndpaa
open Go.RowKit

/-- The slice '.slice A n c' holds steps, below block B. -/
def Steps (w : World) (B : Nat) (A : Option Addr) (n : Nat) : Prop :=
  0 < n → ∃ b o, A = some ⟨b, o, none⟩ ∧ b < B ∧ ∀ i, i < n → ∃ x y : Int, w.cell? ⟨b, o + i * 2, none⟩ = some (.int .i64 x) ∧ w.cell? ⟨b, o + i * 2 + 1, none⟩ = some (.int .i64 y)
theorem Steps.below {w w' : World} {B : Nat} {A : Option Addr} {n : Nat} (h : Steps w B A n) (hb : Below B w w') : Steps w' B A n := fun hn => by
  obtain ⟨b, o, hA, hB, hc⟩ := h hn
  refine ⟨b, o, hA, hB, fun i hi => ?_⟩
  obtain ⟨x, y, h1, h2⟩ := hc i hi
  exact ⟨x, y, (hb.cell (p := ⟨b, _, none⟩) hB).trans h1, (hb.cell (p := ⟨b, _, none⟩) hB).trans h2⟩

set_option maxHeartbeats 1000000 in
theorem none_walk (A : Option Addr) (n c : Nat) (w : World) (h : Steps w w.heap.size A n) (_hn : n ≤ 9223372036854775807) :
    Calls Try.prog 6 #[.slice A n c] w fun e w' => e = .returned (.bool true) ∧ Below w.heap.size w w' := by
  go_enter Try.func6, Try.ntmps6
  go_wp2_with (go_at_call 11; refine (wakes_any _).mono ?_; rintro e w1 ⟨rfl, hB1⟩)
  go_loopw [12] (fun i wr => ∃ k : Nat, k ≤ n ∧ k ≤ 20 ∧ i = .int .i64 k ∧ Below w.heap.size w wr) (fun i _ => n - (intOf i).toNat)
  case atStart => exact ⟨0, Nat.zero_le _, Nat.zero_le _, rfl, hB1⟩
  case round =>
    obtain ⟨k, hk, hk2, rfl, hb⟩ := hrel
    by_cases hlt : k < n
    · obtain ⟨b, o, rfl, hbB, hc⟩ := (h.below hb) (by omega)
      obtain ⟨x, y, h1, h2⟩ := hc k hlt
      have hsz := hb.size
      clear hc h
      by_cases h20 : k = 20
      · subst h20
        go_wp2
        go_ret
        exact ⟨rfl, hb.alloc hsz _⟩
      · go_wp2_with (first
          | (go_at_call 23; refine (reads_nil _ _ _).mono ?_; rintro e w2 ⟨rfl, hB2⟩)
          | (go_at_call 25; refine (at_nil _).mono ?_; rintro e w' ⟨rfl, rfl⟩)
          | (go_at_call 26; refine (left_nil _).mono ?_; rintro e w' ⟨rfl, rfl⟩)
          | (go_at_call 27; refine (err_nil _).mono ?_; rintro e w' ⟨rfl, rfl⟩))
        go_roundw
        case rel => exact ⟨k + 1, by omega, by omega, by go_num, (hb.alloc hsz _).trans (hB2.mono (by simp; omega))⟩
        case measure => simp [intOf]; omega
    · go_wp2
      go_ret
      exact ⟨rfl, hb⟩

end Go.Proofs.Ytbjillkdhjndpaa
