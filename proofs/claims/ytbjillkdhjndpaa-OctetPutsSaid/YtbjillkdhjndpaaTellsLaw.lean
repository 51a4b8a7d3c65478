/-
  The law OctetTells, walked.
-/
import Derived.Test.YtbjillkdhjndpaaTells
import Derived.Deep.RegionWith
namespace Go.Proofs.Ytbjillkdhjndpaa
open Go.RowKit

/-- The slice '.slice A n c' holds rows of bytes, all below block B. -/
def Rws (w : World) (B : Nat) (A : Option Addr) (n : Nat) : Prop :=
  0 < n → ∃ b o, A = some ⟨b, o, none⟩ ∧ b < B ∧ ∀ i, i < n → ∃ A' n' c' zs, w.cell? ⟨b, o + i, none⟩ = some (.slice A' n' c') ∧ By w B A' n' zs ∧ n' ≤ c'
theorem Rws.below {w w' : World} {B : Nat} {A : Option Addr} {n : Nat} (h : Rws w B A n) (hb : Below B w w') : Rws w' B A n := fun hn => by
  obtain ⟨b, o, hA, hB, hc⟩ := h hn
  refine ⟨b, o, hA, hB, fun i hi => ?_⟩
  obtain ⟨A', n', c', zs, h1, h2, h3⟩ := hc i hi
  exact ⟨A', n', c', zs, (hb.cell (p := ⟨b, _, none⟩) hB).trans h1, h2.below hb, h3⟩

set_option maxHeartbeats 2000000 in
theorem tells_walk (A : Option Addr) (n c : Nat) (x : Int) (w : World) (h : Rws w w.heap.size A n) (_hn : n ≤ 9223372036854775807) :
    Calls Try.prog 4 #[.slice A n c, .int .u8 x] w fun e w' => e = .returned (.bool true) ∧ Below w.heap.size w w' := by
  go_enter Try.func4, Try.ntmps4
  go_wp2_with (go_at_call 11; refine (wakes_any _).mono ?_; rintro e w1 ⟨rfl, hB1⟩)
  go_loopw [13] (fun i wr => ∃ k : Nat, k ≤ n ∧ k ≤ 12 ∧ i = .int .i64 k ∧ Below w.heap.size w wr) (fun i _ => n - (intOf i).toNat)
  case atStart => exact ⟨0, Nat.zero_le _, Nat.zero_le _, rfl, hB1⟩
  case round =>
    obtain ⟨k, hk, hk2, rfl, hb⟩ := hrel
    by_cases hlt : k < n
    · obtain ⟨b, o, rfl, hbB, hc⟩ := (h.below hb) (by omega)
      obtain ⟨A1, n1, c1, z1, hc1, hy1, hnc1⟩ := hc k hlt
      obtain ⟨A0, n0, c0, z0, hc0, hy0, hnc0⟩ := hc 0 (by omega)
      rw [Nat.add_zero] at hc0
      have hsz := hb.size
      have hn0 : (0 : Int) < n := by omega
      clear hc h
      by_cases h20 : k = 12
      · subst h20
        go_wp2
        go_ret
        exact ⟨rfl, hb⟩
      · have hk12 : ((k : Int) == 12) = false := by simp; omega
        have hk11 : k < 12 := by omega
        clear h20
        have Y1 := Lib.hid hy1
        have Y0 := Lib.hid hy0
        clear hy1 hy0
        go_wp2_with fail
        have tok1 : True := trivial
        go_region_with (first
          | (go_at_call 12; have _t := tok1; refine (few_any A1 n1 c1 z1 _ w.heap.size ?_ hnc1).mono ?_; (exact Y1.out); rintro e w2 ⟨Ax, cx, rfl, hox, hbx⟩; clear tok1 _t; have hc2 : w2.cell? ⟨b, o, none⟩ = some (.slice A0 n0 c0) := ((hbx.mono hsz).cell (p := ⟨b, o, none⟩) hbB).trans hc0)
          | (go_at_call 12; refine (few_any A0 n0 c0 z0 _ w.heap.size ?_ hnc0).mono ?_; (exact By.below (by exact Y0.out) (hbx.mono hsz)); rintro e w3 ⟨Ay, cy, rfl, hoy, hbye⟩))
        all_goals
          have bX := (hox.below hbye).by
          have bY := hoy.by
          have Y13 : Hid (By w3 w.heap.size A1 n1 z1) := By.below (By.below (by exact Y1.out) (hbx.mono hsz)) (hbye.mono (Nat.le_trans hsz hbx.size))
          have hb3 : Below w.heap.size w w3 := (hb.trans (Below.trans (by exact ⟨rfl, rfl, rfl, Nat.le_refl _, fun _ _ => rfl⟩) (hbx.mono hsz))).trans (hbye.mono (Nat.le_trans hsz hbx.size))
          clear hox hoy hbx hbye hc2 Y1 Y0 hc1 hc0
          obtain ⟨X, hX⟩ : ∃ X, z1.take 300 = X := ⟨_, rfl⟩
          rw [hX] at bX
          have HX := Lib.hid hX
          clear hX
          generalize z0.take 300 = Y at *
          have e1 : ((X == Y) != (X == Y)) = false := by simp
          have e2 : ((cnt x X : Int) != (cnt x X : Int)) = false := by simp
          have e3 : (X == X) = true := by simp
          generalize hbb : (X == Y) = bb at e1
          have HB := Lib.hid hbb
          clear hbb
          go_wp2_with fail
          refine (equal_any _ _ _ _ _ _ X Y _ _ _ bX bY).mono ?_
          rintro e w4 ⟨rfl, rfl⟩
          rw [HB.out]
          go_wp2_with fail
          refine (same_any _ _ _ _ _ _ X Y _ _ _ bX bY (by omega) (by omega)).mono ?_
          rintro e w4 ⟨rfl, q, rfl⟩
          rw [HB.out]
          go_wp2_with fail
          refine (few_any A1 n1 c1 z1 _ w.heap.size (by exact Y13.out) hnc1).mono ?_
          rintro e w5 ⟨Az, cz, rfl, hoz, hbz⟩
          rw [HX.out] at hoz
          have bX5 : By w5 w3.heap.size Ax (min n1 300) X := By.below (by exact bX) hbz
          have bZ5 := hoz.by
          have hb5 : Below w.heap.size w w5 := hb3.trans (Below.trans (by exact ⟨rfl, rfl, rfl, Nat.le_refl _, fun _ _ => rfl⟩) (hbz.mono hb3.size))
          clear hoz hbz bX bY Y13
          go_wp2_with (first
            | (go_at_call 20; refine (equal_any _ _ _ _ _ _ X X _ _ _ bX5 bZ5).mono ?_; rintro e w' ⟨rfl, rfl⟩)
            | (go_at_call 19; refine (count_any _ _ _ X x _ _ bX5 (by omega)).mono ?_; rintro e w' ⟨rfl, rfl⟩)
            | (go_at_call 21; refine (refcount_any _ _ _ X x _ _ bX5 (by omega)).mono ?_; rintro e w' ⟨rfl, rfl⟩))
          go_roundw
          case rel => exact ⟨k + 1, by omega, by omega, by go_num, hb5⟩
          case measure => simp [intOf]; omega
    · go_wp2
      go_ret
      exact ⟨rfl, hb⟩

end Go.Proofs.Ytbjillkdhjndpaa
