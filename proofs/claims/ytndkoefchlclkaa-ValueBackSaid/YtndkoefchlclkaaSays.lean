/-
  What the document's Next, Number, Go and 'says' answer.
-/
import Derived.Test.YtndkoefchlclkaaSteps
namespace Go.Proofs.Ytndkoefchlclkaa
open Go.RowKit

theorem mul_byte (X z : Int) : IntKind.u64.wrap (IntKind.u64.wrap (256 * X) + z) = (X * 256 + z) % 18446744073709551616 := by
  rw [IntKind.wrap_u64, IntKind.wrap_u64]; omega

set_option maxHeartbeats 400000 in
theorem refnum_any (A : Option Addr) (n c : Nat) (zs : List Int) (w : World) (B : Nat) (h : By w B A n zs) (hn : n ≤ 140737488355328) :
    Calls Try.prog 59 #[.slice A n c] w fun e w' => e = .returned (.int .u64 (num zs)) ∧ w = w' := by
  have hl := Lib.hid h.1
  go_enter Try.func59, Try.ntmps59
  go_wp2
  go_loop [3, 8] (fun t i => ∃ j : Nat, j ≤ n ∧ i = .int .i64 j ∧ t = .int .u64 (num (zs.take j))) (fun _ i => n - (intOf i).toNat)
  case atStart => exact ⟨0, Nat.zero_le _, rfl, rfl⟩
  case round =>
    obtain ⟨j, hj, rfl, rfl⟩ := hrel
    by_cases hlt : j < n
    · obtain ⟨b, o, rfl, hb, hc⟩ := h.2.2 (by omega)
      have hcell := hc j hlt
      have hz := h.2.1 j
      have hs := Lib.hid (num_snoc zs j (by rw [hl.out]; exact hlt))
      clear hc h
      generalize zs.getD j 0 = z at *
      have hr := num_range (zs.take j)
      generalize hX : num (zs.take j) = X at hs hr
      clear hX
      go_wp2
      go_round
      case rel => exact ⟨j + 1, by omega, by go_num, by rw [hs.out, ← mul_byte]⟩
      case measure => simp [intOf]; omega
    · go_wp2
      go_ret
      exact ⟨ret_int (by rw [List.take_of_length_le (by rw [hl.out]; omega)]), rfl⟩

/-- What the document's Next leaves. -/
def Nexted (w : World) (B : Nat) (A : Option Addr) (n c : Nat) (zs : List Int) (k : Nat) (er m : Int) (e : Ending) (w' : World) : Prop :=
  ∃ A' c', e = .returned (.tuple #[.agg #[.slice A n c, .int .i64 (nAt n k er m), .int .i64 (nErr n k er m)], .slice A' (nBytes zs k er m).length c']) ∧ By w' B A' (nBytes zs k er m).length (nBytes zs k er m) ∧ Below w.heap.size w w'

theorem Nexted.mk {w w' : World} {B : Nat} {A : Option Addr} {n c : Nat} {zs : List Int} {k : Nat} {er m : Int} {a b : Int} {X : List Int} {l : Nat} {A' : Option Addr} {c' : Nat} (h2 : (nAt n k er m : Int) = a) (h3 : nErr n k er m = b) (h4 : nBytes zs k er m = X) (h5 : X.length = l)
    (hy : By w' B A' l X) (hb : Below w.heap.size w w') : Nexted w B A n c zs k er m (.returned (.tuple #[.agg #[.slice A n c, .int .i64 a, .int .i64 b], .slice A' l c'])) w' := by
  subst h2 h3 h4 h5
  exact ⟨A', c', rfl, hy, hb⟩


end Go.Proofs.Ytndkoefchlclkaa
