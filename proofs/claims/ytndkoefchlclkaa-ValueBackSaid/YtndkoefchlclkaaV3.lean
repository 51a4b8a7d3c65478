/-
  The order of values: the program's Compare, the document's.
-/
import Derived.Test.YtndkoefchlclkaaV2
import Derived.Test.YtndkoefchlclkaaOrder
import Derived.StillTailTactics
namespace Go.Proofs.Ytndkoefchlclkaa
open Go.RowKit
attribute [local go_sem ↓] eqV neV eqG

theorem less_cmp : ∀ x y : List UInt8, Op.bytesLess x y = decide (Lib.compareBytes x y < 0)
  | [], [] => rfl
  | [], _ :: _ => rfl
  | _ :: _, [] => rfl
  | a :: x, b :: y => by
    have ih := less_cmp x y
    unfold Op.bytesLess Lib.compareBytes
    rw [ih]
    by_cases h : a < b
    · simp [h]
    · by_cases h2 : b < a
      · have hn : ¬ a = b := fun e => by subst e; exact h h2
        simp [h, h2, hn]
      · have e : a = b := by
          apply UInt8.toNat_inj.1
          rw [UInt8.lt_iff_toNat_lt] at h h2
          omega
        subst e
        simp [h]
/-- Of two rows of bytes one is ahead, or both are one. -/
theorem cmpB_three : ∀ x y : List UInt8, (x = y ∧ Lib.compareBytes x y = 0 ∧ Lib.compareBytes y x = 0) ∨ (x ≠ y ∧ Lib.compareBytes x y = -1 ∧ Lib.compareBytes y x = 1) ∨ (x ≠ y ∧ Lib.compareBytes x y = 1 ∧ Lib.compareBytes y x = -1)
  | [], [] => .inl ⟨rfl, rfl, rfl⟩
  | [], _ :: _ => .inr (.inl ⟨by simp, rfl, rfl⟩)
  | _ :: _, [] => .inr (.inr ⟨by simp, rfl, rfl⟩)
  | a :: x, b :: y => by
    have ih := cmpB_three x y
    unfold Lib.compareBytes
    by_cases h : a < b
    · have h2 : ¬ b < a := by rw [UInt8.lt_iff_toNat_lt] at h ⊢; omega
      have hn : ¬ a = b := fun e => by subst e; exact h2 h
      exact .inr (.inl ⟨by simp [hn], by simp [h], by simp [h, h2]⟩)
    · by_cases h2 : b < a
      · have hn : ¬ a = b := fun e => by subst e; exact h h2
        exact .inr (.inr ⟨by simp [hn], by simp [h, h2], by simp [h2]⟩)
      · have e : a = b := by
          apply UInt8.toNat_inj.1
          rw [UInt8.lt_iff_toNat_lt] at h h2
          omega
        subst e
        simp only [h, if_false]
        rcases ih with ⟨h0, h1, h3⟩ | ⟨h0, h1, h3⟩ | ⟨h0, h1, h3⟩
        · exact .inl ⟨by rw [h0], h1, h3⟩
        · exact .inr (.inl ⟨by simp [h0], h1, h3⟩)
        · exact .inr (.inr ⟨by simp [h0], h1, h3⟩)
theorem toList_inj {a b : ByteArray} (h : a.toList = b.toList) : a = b := by
  have := same_str a b
  rw [h] at this
  simpa using this.symm

def cmpS (a b : ByteArray) : Int := Lib.compareBytes a.toList b.toList
theorem cmpS_three (a b : ByteArray) : (a = b ∧ cmpS a b = 0 ∧ Op.bytesLess a.toList b.toList = false ∧ Op.bytesLess b.toList a.toList = false) ∨ (a ≠ b ∧ cmpS a b = -1 ∧ Op.bytesLess a.toList b.toList = true ∧ Op.bytesLess b.toList a.toList = false) ∨ (a ≠ b ∧ cmpS a b = 1 ∧ Op.bytesLess a.toList b.toList = false ∧ Op.bytesLess b.toList a.toList = true) := by
  unfold cmpS
  simp only [less_cmp]
  rcases cmpB_three a.toList b.toList with ⟨h0, h1, h2⟩ | ⟨h0, h1, h2⟩ | ⟨h0, h1, h2⟩
  · exact .inl ⟨toList_inj h0, h1, by rw [h1]; rfl, by rw [h2]; rfl⟩
  · exact .inr (.inl ⟨fun e => h0 (by rw [e]), h1, by rw [h1]; rfl, by rw [h2]; rfl⟩)
  · exact .inr (.inr ⟨fun e => h0 (by rw [e]), h1, by rw [h1]; rfl, by rw [h2]; rfl⟩)

/-- How two values stand to one another. -/
def cmpV (k n : Int) (s : ByteArray) (k' n' : Int) (s' : ByteArray) : Int := if cmp3 k k' ≠ 0 then cmp3 k k' else if cmp3 n n' ≠ 0 then cmp3 n n' else cmpS s s'

theorem cmp3_three (x y : Int) : (x = y ∧ cmp3 x y = 0) ∨ (x < y ∧ cmp3 x y = -1) ∨ (y < x ∧ cmp3 x y = 1) := by
  unfold cmp3
  rcases Int.lt_trichotomy x y with h | h | h
  · exact .inr (.inl ⟨h, if_pos h⟩)
  · exact .inl ⟨h, by rw [if_neg (by omega), if_neg (by omega)]⟩
  · exact .inr (.inr ⟨h, by rw [if_neg (by omega), if_pos h]⟩)

theorem ccompareInt (x y : Int) (w : World) : Calls Try.prog 40 #[.int .i64 x, .int .i64 y] w fun e w' => e = .returned (.int .i64 (cmp3 x y)) ∧ w = w' := by
  have hx : (x != x) = false := by simp
  have hy : (y != y) = false := by simp
  rcases (show x < y ∨ (¬ x < y ∧ y < x) ∨ (¬ x < y ∧ ¬ y < x) by omega) with h | ⟨h, h'⟩ | ⟨h, h'⟩
  all_goals
    go_enter Try.func40, Try.ntmps40
    go_wp2
    go_ret
    exact ⟨ret_int (by unfold cmp3; first | rw [if_pos (by omega)] | rw [if_neg (by omega), if_pos (by omega)] | rw [if_neg (by omega), if_neg (by omega)]), rfl⟩
theorem ccompareInt64 (x y : Int) (w : World) : Calls Try.prog 41 #[.int .i64 x, .int .i64 y] w fun e w' => e = .returned (.int .i64 (cmp3 x y)) ∧ w = w' := by
  have hx : (x != x) = false := by simp
  have hy : (y != y) = false := by simp
  rcases (show x < y ∨ (¬ x < y ∧ y < x) ∨ (¬ x < y ∧ ¬ y < x) by omega) with h | ⟨h, h'⟩ | ⟨h, h'⟩
  all_goals
    go_enter Try.func41, Try.ntmps41
    go_wp2
    go_ret
    exact ⟨ret_int (by unfold cmp3; first | rw [if_pos (by omega)] | rw [if_neg (by omega), if_pos (by omega)] | rw [if_neg (by omega), if_neg (by omega)]), rfl⟩
theorem ccompareStr (a b : ByteArray) (w : World) : Calls Try.prog 42 #[.string a, .string b] w fun e w' => e = .returned (.int .i64 (cmpS a b)) ∧ w = w' := by
  have hs := same_str a b
  rcases cmpS_three a b with ⟨rfl, h0, h1, h2⟩ | ⟨hn, h0, h1, h2⟩ | ⟨hn, h0, h1, h2⟩
  · rw [h0]
    have hs : (a.toList == a.toList) = true := by simp
    go_enter Try.func42, Try.ntmps42
    go_wp2
    go_ret
    exact ⟨rfl, rfl⟩
  all_goals
    rw [decide_eq_false hn] at hs
    clear hn
    rw [h0]
    go_enter Try.func42, Try.ntmps42
    go_wp2
    go_ret
    exact ⟨rfl, rfl⟩

/-- The first that is not nought. -/
def or3 (x y z : Int) : Int := if x ≠ 0 then x else if y ≠ 0 then y else z

theorem or_ints (g : Nat) (x y z : Int) (w : World) (h : Blk w g 3 #[.int .i64 x, .int .i64 y, .int .i64 z]) : Calls Try.prog 39 #[.slice (some ⟨g, 0, none⟩) 3 3] w fun e w' => e = .returned (.int .i64 (or3 x y z)) ∧ w = w' := by
  have hc : ∀ j, j < 3 → w.cell? ⟨g, j, none⟩ = some (.int .i64 ([x, y, z].getD j 0)) := fun j hj => by
    rw [h.cell]
    match j, hj with
    | 0, _ => rfl
    | 1, _ => rfl
    | 2, _ => rfl
  have HC := Lib.hid hc
  clear hc h
  generalize ho : or3 x y z = V
  have HO := Lib.hid ho
  clear ho
  go_enter Try.func39, Try.ntmps39
  go_wp2
  go_loopw [8] (fun i wr => wr = w ∧ ∃ j : Nat, j ≤ 3 ∧ i = .int .i64 j ∧ ∀ i, i < j → [x, y, z].getD i 0 = 0) (fun i _ => 3 - (intOf i).toNat)
  case atStart => exact ⟨rfl, 0, Nat.zero_le _, rfl, fun i hi => absurd hi (by omega)⟩
  case round =>
    obtain ⟨rfl, j, hj, rfl, hz⟩ := hrel
    have HZ := Lib.hid hz
    clear hz
    by_cases hlt : j < 3
    · have hcj := HC.out j hlt
      by_cases hv : [x, y, z].getD j 0 = 0
      · have HV := Lib.hid hv
        rw [hv] at hcj
        clear hv
        go_wp2
        go_roundw
        case rel => exact ⟨trivial, j + 1, by omega, by go_num, fun i hi => by
          by_cases h : i < j
          · exact HZ.out i h
          · obtain rfl : i = j := by omega
            exact HV.out⟩
        case measure => simp [intOf]; omega
      · have e3 : or3 x y z = [x, y, z].getD j 0 := by
          unfold or3
          match j, hlt with
          | 0, _ => exact if_pos hv
          | 1, _ =>
            have h0 : x = 0 := HZ.out 0 (by omega)
            rw [if_neg (by omega)]
            exact if_pos hv
          | 2, _ =>
            have h0 : x = 0 := HZ.out 0 (by omega)
            have h1 : y = 0 := HZ.out 1 (by omega)
            rw [if_neg (by omega), if_neg (by omega)]
            rfl
        have HV := Lib.hid (e3.symm.trans HO.out)
        clear e3 HC HZ
        generalize [x, y, z].getD j 0 = v at *
        have hb : (v != 0) = true := by simp [hv]
        go_wp2
        go_ret
        exact ⟨ret_int HV.out, rfl⟩
    · obtain rfl : j = 3 := by omega
      have e3 : or3 x y z = 0 := by
        have h0 : x = 0 := HZ.out 0 (by omega)
        have h1 : y = 0 := HZ.out 1 (by omega)
        have h2 : z = 0 := HZ.out 2 (by omega)
        subst h0 h1 h2
        rfl
      have HV := Lib.hid (e3.symm.trans HO.out)
      clear HC HZ e3
      go_wp2
      go_ret
      exact ⟨ret_int HV.out, rfl⟩

theorem cmpV_or (k n : Int) (s : ByteArray) (k' n' : Int) (s' : ByteArray) : or3 (cmp3 k k') (cmp3 n n') (cmpS s s') = cmpV k n s k' n' s' := rfl

set_option maxRecDepth 100000 in
set_option maxHeartbeats 1000000 in
theorem compare_any (k n : Int) (s : ByteArray) (k' n' : Int) (s' : ByteArray) (w : World) : Calls Try.prog 19 #[.agg #[.int .i64 k, .int .i64 n, .string s], .agg #[.int .i64 k', .int .i64 n', .string s']] w fun e w' => e = .returned (.int .i64 (cmpV k n s k' n' s')) ∧ Below w.heap.size w w' := by
  have v0 : V3 ((w.alloc (.cells #[.int .i64 k, .int .i64 n, .string s] 23)).alloc (.cells #[.int .i64 k', .int .i64 n', .string s'] 23)) w.heap.size k n s := (V3.box rfl).below ((Below.refl _ _).alloc (Nat.le_refl _) _) (by simp)
  have v1 : V3 ((w.alloc (.cells #[.int .i64 k, .int .i64 n, .string s] 23)).alloc (.cells #[.int .i64 k', .int .i64 n', .string s'] 23)) (w.heap.size + 1) k' n' s' := V3.box (by simp)
  have b0 : Below w.heap.size w ((w.alloc (.cells #[.int .i64 k, .int .i64 n, .string s] 23)).alloc (.cells #[.int .i64 k', .int .i64 n', .string s'] 23)) := ((Below.refl _ w).alloc (Nat.le_refl _) _).alloc (by simp) _
  have V0 := Lib.hid v0
  have V1 := Lib.hid v1
  have B0 := Lib.hid b0
  rw [← cmpV_or]
  clear v0 v1 b0
  go_enter Try.func19, Try.ntmps19
  go_upto_region 1 with (fail)
  generalize (w.alloc (.cells #[.int .i64 k, .int .i64 n, .string s] 23)).alloc (.cells #[.int .i64 k', .int .i64 n', .string s'] 23) = W0 at *
  have c0 := V0.out.1
  have c1 := V0.out.2.1
  have c2 := V0.out.2.2
  have d0 := V1.out.1
  have d1 := V1.out.2.1
  have d2 := V1.out.2.2
  refine wp_region_still_tail 15 (by kernel_rfl) (by kernel_rfl) ?_
  simp only [List.take_succ_cons, List.take_zero, List.drop_succ_cons, List.drop_zero]
  still_step
  still_step
  still_step
  still_step
  still_call ((ccompareInt _ _ _).mono (fun _ _ h => ⟨h.1, h.2.symm⟩))
  still_step
  still_step
  still_step
  still_step
  still_call ((ccompareInt64 _ _ _).mono (fun _ _ h => ⟨h.1, h.2.symm⟩))
  still_step
  still_step
  still_step
  still_step
  still_call ((ccompareStr _ _ _).mono (fun _ _ h => ⟨h.1, h.2.symm⟩))
  refine wpStill_nil ?_
  have B1 : Hid (Below w.heap.size w W0.drew) := B0.out.drew
  clear c0 c1 c2 d0 d1 d2 V0 V1 B0
  change wpList _ _ _ _ _ W0.drew
  generalize W0.drew = W1 at *
  have hBl : Hid (Blk (W1.alloc (.cells #[.int .i64 (cmp3 k k'), .int .i64 (cmp3 n n'), .int .i64 (cmpS s s')] 3)) W1.heap.size 3 #[.int .i64 (cmp3 k k'), .int .i64 (cmp3 n n'), .int .i64 (cmpS s s')]) := Blk.new _ _ _
  have hB2 : Hid (Below w.heap.size w (W1.alloc (.cells #[.int .i64 (cmp3 k k'), .int .i64 (cmp3 n n'), .int .i64 (cmpS s s')] 3))) := B1.out.alloc B1.out.size _
  clear B1
  go_wp2_with fail
  refine (or_ints _ _ _ _ _ hBl.out).mono ?_
  rintro e w2 ⟨rfl, rfl⟩
  go_wp2
  go_ret
  exact ⟨rfl, hB2.out⟩

end Go.Proofs.Ytndkoefchlclkaa
