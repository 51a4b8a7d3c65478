/-
  A spot that three logs have: the law's own common.
-/
import Derived.Test.YtmgaihdepglahaaQG
import Derived.Test.YtmgaihdepglahaaIX
import Derived.Test.YtmgaihdepglahaaN9
namespace Go.Proofs.Ytmgaihdepglahaa
open Go.RowKit
attribute [local go_sem] index50_0 index50_1 index50_2

/-- Three logs in a row. -/
def arr (L : Nat → Lg) (A : Nat → Option Addr) (n c : Nat → Nat) : Array Value := #[.int .u64 (L 0).bi, .int .u64 (L 0).bt, .slice (A 0) (n 0) (c 0), .int .u64 (L 1).bi, .int .u64 (L 1).bt, .slice (A 1) (n 1) (c 1), .int .u64 (L 2).bi, .int .u64 (L 2).bt, .slice (A 2) (n 2) (c 2)]
set_option linter.unusedSimpArgs false in
set_option maxRecDepth 100000 in
set_option maxHeartbeats 4000000 in
theorem common_any (L : Nat → Lg) (A : Nat → Option Addr) (n c : Nat → Nat) (w : World) (h : ∀ k, k < 3 → Lr w w.heap.size (A k) (n k) (c k) (L k)) (i t : Int) (hi : 0 ≤ i) (hi' : i < 18446744073709551616) :
    Calls Try.prog 43 #[.agg (arr L A n c), .agg #[.int .u64 i, .int .u64 t]] w fun e w' => e = .returned (.bool (hasB (L 0) i t && (hasB (L 1) i t && hasB (L 2) i t))) ∧ Below w.heap.size w w' := by
  unfold arr
  obtain ⟨p, hp⟩ : ∃ p, w.heap.size = p := ⟨_, rfl⟩
  have H0 := Lib.hid (fun W (hW : Below w.heap.size w W) => Has_any (L 0) (A 0) (n 0) (c 0) w.heap.size W ((h 0 (by omega)).below hW) hW.size i t hi hi')
  generalize hasB (L 0) i t = Q0 at *
  have H1 := Lib.hid (fun W (hW : Below w.heap.size w W) => Has_any (L 1) (A 1) (n 1) (c 1) w.heap.size W ((h 1 (by omega)).below hW) hW.size i t hi hi')
  generalize hasB (L 1) i t = Q1 at *
  have H2 := Lib.hid (fun W (hW : Below w.heap.size w W) => Has_any (L 2) (A 2) (n 2) (c 2) w.heap.size W ((h 2 (by omega)).below hW) hW.size i t hi hi')
  generalize hasB (L 2) i t = Q2 at *
  rw [hp] at H0 H1 H2
  rw [hp]
  have b3 : Blk ((w.alloc (.cells #[.int .u64 (L 0).bi, .int .u64 (L 0).bt, .slice (A 0) (n 0) (c 0), .int .u64 (L 1).bi, .int .u64 (L 1).bt, .slice (A 1) (n 1) (c 1), .int .u64 (L 2).bi, .int .u64 (L 2).bt, .slice (A 2) (n 2) (c 2)] 50)).alloc (.cells #[.int .u64 i, .int .u64 t] 24)) (p + 1) 24 #[.int .u64 i, .int .u64 t] := Blk.fresh (by simp [hp])
  have hb3 : Below p w ((w.alloc (.cells #[.int .u64 (L 0).bi, .int .u64 (L 0).bt, .slice (A 0) (n 0) (c 0), .int .u64 (L 1).bi, .int .u64 (L 1).bt, .slice (A 1) (n 1) (c 1), .int .u64 (L 2).bi, .int .u64 (L 2).bt, .slice (A 2) (n 2) (c 2)] 50)).alloc (.cells #[.int .u64 i, .int .u64 t] 24)) := ((Below.refl _ _).alloc (Nat.le_of_eq hp.symm) _).alloc (by simp; omega) _
  clear h
  have HP := Lib.hid hp
  go_enter Try.func43, Try.ntmps43
  go_wp2_with fail
  go_loopw [8] (fun ix wr => ∃ k : Nat, k ≤ 3 ∧ ix = .int .i64 k ∧ (0 < k → Q0 = true) ∧ (1 < k → Q1 = true) ∧ (2 < k → Q2 = true) ∧ Blk wr (p + 1) 24 #[.int .u64 i, .int .u64 t] ∧ Below p w wr) (fun ix _ => 3 - (intOf ix).toNat)
  case atStart => exact ⟨0, by omega, rfl, fun h => absurd h (by omega), fun h => absurd h (by omega), fun h => absurd h (by omega), b3, hb3⟩
  case round =>
    obtain ⟨k, hk, rfl, s0, s1, s2, b, hb⟩ := hrel
    have B := Lib.hid b
    have HB := Lib.hid hb
    have x0 : wr.cell? ⟨p + 1, 0, none⟩ = some (.int .u64 i) := b.cell 0
    have x1 : wr.cell? ⟨p + 1, 1, none⟩ = some (.int .u64 t) := b.cell 1
    have hz : p + 1 < wr.heap.size := b.lt
    clear b hb b3 hb3
    rcases (by omega : k = 0 ∨ k = 1 ∨ k = 2 ∨ k = 3) with rfl | rfl | rfl | rfl
    · have hb1 : Below wr.heap.size wr (wr.alloc (.cells #[.int .u64 (L 0).bi, .int .u64 (L 0).bt, .slice (A 0) (n 0) (c 0)] 27)) := (Below.refl _ _).alloc (Nat.le_refl _) _
      have B1 := Lib.hid (B.out.below hb1 hz)
      have HB1 := Lib.hid (HB.out.trans (hb1.mono (by have := HB.out.size; have := HP.out; omega)))
      clear hb1
      cases hq : Q0 with
      | false =>
        rw [hq] at H0
        go_wp2_with (go_at_call 37; refine (H0.out _ HB1.out).mono ?_; rintro e w2 ⟨rfl, hb2⟩)
        go_ret
        exact ⟨by simp [hq], HB1.out.trans (hb2.mono (by have := B1.out.lt; omega))⟩
      | true =>
        rw [hq] at H0
        go_wp2_with (go_at_call 37; refine (H0.out _ HB1.out).mono ?_; rintro e w2 ⟨rfl, hb2⟩)
        go_roundw
        case rel => exact ⟨1, by omega, (by first | rfl | trivial | go_num), fun _ => (by first | exact hq | trivial), fun h => absurd h (by omega), fun h => absurd h (by omega), B1.out.below hb2 B1.out.lt, HB1.out.trans (hb2.mono (by have := B1.out.lt; omega))⟩
        case measure => simp [intOf]
    · have hb1 : Below wr.heap.size wr (wr.alloc (.cells #[.int .u64 (L 1).bi, .int .u64 (L 1).bt, .slice (A 1) (n 1) (c 1)] 27)) := (Below.refl _ _).alloc (Nat.le_refl _) _
      have B1 := Lib.hid (B.out.below hb1 hz)
      have HB1 := Lib.hid (HB.out.trans (hb1.mono (by have := HB.out.size; have := HP.out; omega)))
      clear hb1
      cases hq : Q1 with
      | false =>
        rw [hq] at H1
        go_wp2_with (go_at_call 37; refine (H1.out _ HB1.out).mono ?_; rintro e w2 ⟨rfl, hb2⟩)
        go_ret
        exact ⟨by simp [hq], HB1.out.trans (hb2.mono (by have := B1.out.lt; omega))⟩
      | true =>
        rw [hq] at H1
        go_wp2_with (go_at_call 37; refine (H1.out _ HB1.out).mono ?_; rintro e w2 ⟨rfl, hb2⟩)
        go_roundw
        case rel => exact ⟨2, by omega, (by first | rfl | trivial | go_num), fun _ => s0 (by omega), fun _ => (by first | exact hq | trivial), fun h => absurd h (by omega), B1.out.below hb2 B1.out.lt, HB1.out.trans (hb2.mono (by have := B1.out.lt; omega))⟩
        case measure => simp [intOf]
    · have hb1 : Below wr.heap.size wr (wr.alloc (.cells #[.int .u64 (L 2).bi, .int .u64 (L 2).bt, .slice (A 2) (n 2) (c 2)] 27)) := (Below.refl _ _).alloc (Nat.le_refl _) _
      have B1 := Lib.hid (B.out.below hb1 hz)
      have HB1 := Lib.hid (HB.out.trans (hb1.mono (by have := HB.out.size; have := HP.out; omega)))
      clear hb1
      cases hq : Q2 with
      | false =>
        rw [hq] at H2
        go_wp2_with (go_at_call 37; refine (H2.out _ HB1.out).mono ?_; rintro e w2 ⟨rfl, hb2⟩)
        go_ret
        exact ⟨by simp [hq], HB1.out.trans (hb2.mono (by have := B1.out.lt; omega))⟩
      | true =>
        rw [hq] at H2
        go_wp2_with (go_at_call 37; refine (H2.out _ HB1.out).mono ?_; rintro e w2 ⟨rfl, hb2⟩)
        go_roundw
        case rel => exact ⟨3, by omega, (by first | rfl | trivial | go_num), fun _ => s0 (by omega), fun _ => s1 (by omega), fun _ => (by first | exact hq | trivial), B1.out.below hb2 B1.out.lt, HB1.out.trans (hb2.mono (by have := B1.out.lt; omega))⟩
        case measure => simp [intOf]
    · have q0 := s0 (by omega)
      have q1 := s1 (by omega)
      have q2 := s2 (by omega)
      subst q0 q1 q2
      go_wp2
      go_ret
      exact ⟨rfl, HB.out⟩
  
  end Go.Proofs.Ytmgaihdepglahaa
