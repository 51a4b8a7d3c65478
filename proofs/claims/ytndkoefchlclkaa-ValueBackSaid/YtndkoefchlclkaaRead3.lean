/-
  What a Reader's number answers.
-/
import Derived.Test.YtndkoefchlclkaaRead2
import Derived.Laws.BitsAllLaws
namespace Go.Proofs.Ytndkoefchlclkaa
open Go.RowKit

theorem or_byte (X z : Int) (hz : 0 ≤ z ∧ z ≤ 255) : bits .or .u64 (IntKind.u64.wrap (X * 256)) z = (X * 256 + z) % 18446744073709551616 := by
  have hw : IntKind.u64.wrap (X * 256) = 256 * (X % 72057594037927936) := by rw [IntKind.wrap_u64]; omega
  rw [hw]
  obtain ⟨y, hy⟩ := Int.eq_ofNat_of_zero_le (show 0 ≤ X % 72057594037927936 by omega)
  obtain ⟨v, rfl⟩ := Int.eq_ofNat_of_zero_le hz.1
  rw [hy, show (256 * (y : Int)) = ((256 * y : Nat) : Int) by omega, u64_or_nat _ _ (by omega) (by omega)]
  have := Nat.two_pow_add_eq_or_of_lt (i := 8) (b := v) (by omega) y
  rw [show 256 * y = 2 ^ 8 * y by omega, ← this]
  omega

set_option maxHeartbeats 400000 in
theorem number_ok (p k m : Nat) (A : Option Addr) (n c : Nat) (zs : List Int) (w : World) (h : Rd w p k 0 A n c) (hb : By w p A n zs) (hk : k ≤ n) (hnc : n ≤ c) (hn : n ≤ 140737488355328) (hm : m ≤ n - k) :
    Calls Try.prog 85 #[.pointer (some ⟨p, 0, none⟩), .int .i64 m] w fun e w' => e = .returned (.int .u64 (num ((zs.drop k).take m))) ∧ ∃ q, w' = (w.setCell ⟨p, 0, none⟩ (.int .i64 (k + m))).drewN q := by
  have hby := hb.cut hm hk hnc
  go_enter Try.func85, Try.ntmps85
  go_wp2_with (go_at_call 86; refine (next_ok _ _ _ _ _ _ _ h hk hnc hn hm).mono ?_; rintro e w' ⟨rfl, q, rfl⟩; generalize (if c = k then A else A.map (·.add k)) = A' at hby ⊢)
  have hl := Lib.hid hby.1
  go_loop [5, 12] (fun t i => ∃ j : Nat, j ≤ m ∧ i = .int .i64 j ∧ t = .int .u64 (num (((zs.drop k).take m).take j))) (fun _ i => m - (intOf i).toNat)
  case atStart => exact ⟨0, Nat.zero_le _, rfl, rfl⟩
  case round =>
    obtain ⟨j, hj, rfl, rfl⟩ := hrel
    by_cases hlt : j < m
    · obtain ⟨b, o, rfl, hbb, hc⟩ := hby.2.2 (by omega)
      have hcell : (w.setCell ⟨p, 0, none⟩ (.int .i64 (k + m))).cell? ⟨b, o + j, none⟩ = some (.int .u8 (((zs.drop k).take m).getD j 0)) := (World.cell?_setCell_other w _ _ _ (by intro e; injection e with e; omega)).trans (hc j hlt)
      have hz := hby.2.1 j
      generalize hz0 : ((zs.drop k).take m).getD j 0 = z at hcell hz
      have hs := Lib.hid (num_snoc _ j (by rw [hl.out]; exact hlt))
      rw [hz0] at hs
      have hr := num_range (((zs.drop k).take m).take j)
      have HZ := Lib.hid hz0
      clear hc h hz0 hby hb
      generalize hX : num (((zs.drop k).take m).take j) = X at hs hr
      clear hX
      go_wp2
      go_round
      case rel =>
        refine ⟨j + 1, by omega, by go_num, ?_⟩
        rw [hs.out]
        rw [or_byte X z hz]
      case measure => simp [intOf]; omega
    · go_wp2
      go_ret
      exact ⟨ret_int (by rw [List.take_of_length_le (by rw [hl.out]; omega)]), _, rfl⟩

theorem number_nil (m : Int) (w : World) : Calls Try.prog 85 #[.pointer none, .int .i64 m] w fun e w' => e = .returned (.int .u64 0) ∧ w = w' := by
  go_enter Try.func85, Try.ntmps85
  go_wp2_with (go_at_call 86; refine (next_nil _ _).mono ?_; rintro e w' ⟨rfl, rfl⟩)
  refine wp_loop_rounds 1 ?_
  rw [rounds_succ]
  go_wp2
  go_ret
  exact ⟨rfl, rfl⟩

theorem number_bad (p : Nat) (a er m : Int) (A : Option Addr) (n c : Nat) (w : World) (h : Rd w p a er A n c) (he : (er == 0) = false) :
    Calls Try.prog 85 #[.pointer (some ⟨p, 0, none⟩), .int .i64 m] w fun e w' => e = .returned (.int .u64 0) ∧ w = w' := by
  go_enter Try.func85, Try.ntmps85
  go_wp2_with (go_at_call 86; refine (next_bad _ _ _ _ _ _ _ _ h he).mono ?_; rintro e w' ⟨rfl, rfl⟩)
  refine wp_loop_rounds 1 ?_
  rw [rounds_succ]
  go_wp2
  go_ret
  exact ⟨rfl, rfl⟩

theorem number_short (p k : Nat) (m : Int) (A : Option Addr) (n c : Nat) (w : World) (h : Rd w p k 0 A n c) (hk : k ≤ n) (hn : n ≤ 140737488355328) (hm : (n : Int) - k < m) :
    Calls Try.prog 85 #[.pointer (some ⟨p, 0, none⟩), .int .i64 m] w fun e w' => e = .returned (.int .u64 0) ∧ ∃ q, w' = (w.setCell ⟨p, 1, none⟩ (.int .i64 7)).drewN q := by
  go_enter Try.func85, Try.ntmps85
  go_wp2_with (go_at_call 86; refine (next_short _ _ _ _ _ _ _ h hk hn hm).mono ?_; rintro e w' ⟨rfl, q, rfl⟩)
  refine wp_loop_rounds 1 ?_
  rw [rounds_succ]
  go_wp2
  go_ret
  exact ⟨rfl, _, rfl⟩

end Go.Proofs.Ytndkoefchlclkaa
