/-
  What the laws ask first: is a text long?
-/
import Derived.Test.YtndkoefchlclkaaV5
namespace Go.Proofs.Ytndkoefchlclkaa
open Go.RowKit
attribute [local go_sem ↓] eqV neV eqG

/-- A text that is more than is gone through. -/
def lgB (s : ByteArray) : Bool := decide (1000 < s.size)
theorem lg_yes {s : ByteArray} (h : lgB s = true) : (1000 : Int) < (s.size : Int) := by have := of_decide_eq_true h; omega
theorem lg_no {s : ByteArray} (h : lgB s = false) : ¬ (1000 : Int) < (s.size : Int) := by have := of_decide_eq_false h; omega

set_option maxRecDepth 100000 in
set_option maxHeartbeats 2000000 in
theorem long2_any (g : Nat) (k n : Int) (s : ByteArray) (k' n' : Int) (s' : ByteArray) (w : World) (h : Blk w g 23 #[.int .i64 k, .int .i64 n, .string s, .int .i64 k', .int .i64 n', .string s']) :
    Calls Try.prog 12 #[.slice (some ⟨g, 0, none⟩) 2 2] w fun e w' => e = .returned (.bool (lgB s || lgB s')) ∧ Below w.heap.size w w' := by
  have H := Lib.hid h
  have L1 : Hid (lgB s = true → (1000 : Int) < (s.size : Int)) := lg_yes
  have L2 : Hid (lgB s = false → ¬ (1000 : Int) < (s.size : Int)) := lg_no
  have L3 : Hid (lgB s' = true → (1000 : Int) < (s'.size : Int)) := lg_yes
  have L4 : Hid (lgB s' = false → ¬ (1000 : Int) < (s'.size : Int)) := lg_no
  clear h
  go_enter Try.func12, Try.ntmps12
  go_wp2
  go_loopw [7] (fun v wr => ∃ i : Nat, i ≤ 2 ∧ v = .int .i64 i ∧ (0 < i → lgB s = false) ∧ (1 < i → lgB s' = false) ∧ Below w.heap.size w wr) (fun v _ => 2 - (intOf v).toNat)
  case atStart => exact ⟨0, by omega, rfl, fun h => absurd h (by omega), fun h => absurd h (by omega), Below.refl _ _⟩
  case round =>
    obtain ⟨i, hi, rfl, h1, h2, hb⟩ := hrel
    have BR := Lib.hid hb
    have HR := Lib.hid (H.out.below hb H.out.lt)
    have a0 := HR.out.cell 0
    have a1 := HR.out.cell 1
    have a2 := HR.out.cell 2
    have a3 := HR.out.cell 3
    have a4 := HR.out.cell 4
    have a5 := HR.out.cell 5
    clear hb
    rcases (show i = 0 ∨ i = 1 ∨ i = 2 by omega) with rfl | rfl | rfl
    · rcases Bool.eq_false_or_eq_true (lgB s) with hs | hs
      · have hq := L1.out hs
        have HS := Lib.hid hs
        clear h1 h2 hs
        go_wp2
        go_ret
        exact ⟨by simp [HS.out], BR.out.alloc BR.out.size _⟩
      · have hq := L2.out hs
        have HS := Lib.hid hs
        have H1 := Lib.hid h1
        clear h1 h2 hs
        go_wp2
        go_roundw
        case rel => exact ⟨1, by omega, by go_num, fun _ => HS.out, fun h => absurd h (by omega), BR.out.alloc BR.out.size _⟩
        case measure => simp [intOf]
    · rcases Bool.eq_false_or_eq_true (lgB s') with hs | hs
      · have hq := L3.out hs
        have HS := Lib.hid hs
        clear h1 h2 hs
        go_wp2
        go_ret
        exact ⟨by simp [HS.out], BR.out.alloc BR.out.size _⟩
      · have hq := L4.out hs
        have HS := Lib.hid hs
        have H1 := Lib.hid h1
        clear h1 h2 hs
        go_wp2
        go_roundw
        case rel => exact ⟨2, by omega, by go_num, fun _ => H1.out (by omega), fun _ => HS.out, BR.out.alloc BR.out.size _⟩
        case measure => simp [intOf]
    · have H1 := Lib.hid (h1 (by omega))
      have H2 := Lib.hid (h2 (by omega))
      clear h1 h2
      go_wp2
      go_ret
      exact ⟨by simp [H1.out, H2.out], BR.out⟩

set_option maxRecDepth 100000 in
set_option maxHeartbeats 2000000 in
theorem long1_any (g : Nat) (k n : Int) (s : ByteArray) (w : World) (h : Blk w g 23 #[.int .i64 k, .int .i64 n, .string s]) :
    Calls Try.prog 12 #[.slice (some ⟨g, 0, none⟩) 1 1] w fun e w' => e = .returned (.bool (lgB s)) ∧ Below w.heap.size w w' := by
  have H := Lib.hid h
  have L1 : Hid (lgB s = true → (1000 : Int) < (s.size : Int)) := lg_yes
  have L2 : Hid (lgB s = false → ¬ (1000 : Int) < (s.size : Int)) := lg_no
  clear h
  go_enter Try.func12, Try.ntmps12
  go_wp2
  go_loopw [7] (fun v wr => ∃ i : Nat, i ≤ 1 ∧ v = .int .i64 i ∧ (0 < i → lgB s = false) ∧ Below w.heap.size w wr) (fun v _ => 1 - (intOf v).toNat)
  case atStart => exact ⟨0, by omega, rfl, fun h => absurd h (by omega), Below.refl _ _⟩
  case round =>
    obtain ⟨i, hi, rfl, h1, hb⟩ := hrel
    have BR := Lib.hid hb
    have HR := Lib.hid (H.out.below hb H.out.lt)
    have a0 := HR.out.cell 0
    have a1 := HR.out.cell 1
    have a2 := HR.out.cell 2
    clear hb
    rcases (show i = 0 ∨ i = 1 by omega) with rfl | rfl
    · rcases Bool.eq_false_or_eq_true (lgB s) with hs | hs
      · have hq := L1.out hs
        have HS := Lib.hid hs
        clear h1 hs
        go_wp2
        go_ret
        exact ⟨by simp [HS.out], BR.out.alloc BR.out.size _⟩
      · have hq := L2.out hs
        have HS := Lib.hid hs
        have H1 := Lib.hid h1
        clear h1 hs
        go_wp2
        go_roundw
        case rel => exact ⟨1, by omega, by go_num, fun _ => HS.out, BR.out.alloc BR.out.size _⟩
        case measure => simp [intOf]
    · have H1 := Lib.hid (h1 (by omega))
      clear h1
      go_wp2
      go_ret
      exact ⟨by simp [H1.out], BR.out⟩

end Go.Proofs.Ytndkoefchlclkaa
