/-
  The law ValueSorts, walked.
-/
import Derived.Test.YtndkoefchlclkaaLC
import Derived.Test.YtndkoefchlclkaaP1
import Derived.Test.YtndkoefchlclkaaW1
import Derived.Test.YtndkoefchlclkaaTells
namespace Go.Proofs.Ytndkoefchlclkaa
open Go.RowKit
attribute [local go_sem ↓] eqV neV eqG

theorem encF_pos (k n : Int) (s : ByteArray) : 0 < (encF k n s).length := by
  unfold encF
  split
  · simp
  · split
    · simp
    · split <;> simp

theorem By.pre {w : World} {B g n m c : Nat} {xs : List Int} (h : By w B (some ⟨g, 0, none⟩) n xs) (hm : m ≤ n) (hc : n ≤ c) : By w B (some ⟨g, 0, none⟩) m (xs.take m) := by
  have h1 := By.cut (c := c) h (k := 0) (m := m) (by omega) (Nat.zero_le _) hc
  rw [List.drop_zero] at h1
  by_cases h0 : c = 0
  · rw [if_pos h0] at h1; exact h1
  · rw [if_neg h0] at h1; exact h1

set_option maxRecDepth 100000 in
set_option maxHeartbeats 1000000 in
theorem hasPrefix_any (g g' n c m d : Nat) (xs ys : List Int) (w : World) (B B' : Nat) (h : By w B (some ⟨g, 0, none⟩) n xs) (h' : By w B' (some ⟨g', 0, none⟩) m ys) (hc : n ≤ c) :
    Calls Try.prog 38 #[.slice (some ⟨g, 0, none⟩) n c, .slice (some ⟨g', 0, none⟩) m d] w fun e w' => e = .returned (.bool (preB xs ys)) ∧ w = w' := by
  have hx := h.1
  have hy := h'.1
  by_cases hm : m ≤ n
  · have H := Lib.hid (bequal_any (some ⟨g, 0, none⟩) (some ⟨g', 0, none⟩) m c m d (xs.take m) ys w B B' (h.pre hm hc) h')
    have e : preB xs ys = (xs.take m == ys) := by unfold preB; rw [hx, hy, decide_eq_true hm]; rfl
    rw [e]
    have hm1 : (m : Int) ≤ (n : Int) := by omega
    have hm2 : (m : Int) ≤ (c : Int) := by omega
    have m0 : (0 : Int) ≤ (m : Int) := Int.natCast_nonneg m
    clear h h' hx hy e
    go_enter Try.func38, Try.ntmps38
    go_wp2_with (go_at_call 36; refine H.out.mono ?_; rintro e w' ⟨rfl, rfl⟩)
    go_ret
    exact ⟨rfl, rfl⟩
  · have e : preB xs ys = false := by unfold preB; rw [hx, hy, decide_eq_false hm]; rfl
    rw [e]
    have hm1 : ¬ (m : Int) ≤ (n : Int) := by omega
    clear h h' hx hy e
    go_enter Try.func38, Try.ntmps38
    go_wp2
    go_ret
    exact ⟨rfl, rfl⟩

set_option maxRecDepth 100000 in
set_option maxHeartbeats 1000000 in
theorem sorts_walk (k n : Int) (s : ByteArray) (k' n' : Int) (s' : ByteArray) (w : World) (hn : -9223372036854775808 ≤ n ∧ n ≤ 9223372036854775807) (hn' : -9223372036854775808 ≤ n' ∧ n' ≤ 9223372036854775807) :
    Calls Try.prog 9 #[.agg #[.int .i64 k, .int .i64 n, .string s], .agg #[.int .i64 k', .int .i64 n', .string s']] w fun e w' => e = .returned (.bool true) ∧ Below w.heap.size w w' := by
  have HM := Lib.hid (fun w => compare_any k n s k' n' s' w)
  have HN1 := Lib.hid hn
  have HN2 := Lib.hid hn'
  clear hn hn'
  go_enter Try.func9, Try.ntmps9
  go_upto_region 1 with (fail)
  have T0 := TwoV.boxes (w := w) (k := k) (n := n) (s := s) (k' := k') (n' := n') (s' := s') rfl
  generalize (w.alloc (.cells #[.int .i64 k, .int .i64 n, .string s] 23)).alloc (.cells #[.int .i64 k', .int .i64 n', .string s'] 23) = W0 at *
  obtain ⟨c0, c1, c2, d0, d1, d2⟩ := T0.six
  go_wp2_with fail
  refine (wakes_any _).mono ?_
  rintro e w1 ⟨rfl, hb⟩
  have T1 := T0.on hb
  clear hb T0 c0 c1 c2 d0 d1 d2
  obtain ⟨c0, c1, c2, d0, d1, d2⟩ := T1.six
  go_wp2_with fail
  refine (long2_any w1.heap.size k n s k' n' s' _ (Blk.new _ _ _)).mono ?_
  rintro e w2 ⟨rfl, hb⟩
  have T2 := T1.on (((Below.refl _ w1).alloc (Nat.le_refl _) _).trans (hb.mono (by simp)))
  clear hb T1 c0 c1 c2 d0 d1 d2
  generalize (lgB s || lgB s') = lg at *
  cases lg with
  | true =>
    go_wp2
    go_ret
    exact ⟨rfl, T2.bel⟩
  | false =>
    obtain ⟨c0, c1, c2, d0, d1, d2⟩ := T2.six
    rcases Bool.eq_false_or_eq_true (Rt k n s) with hr | hr
    · have E1 := Lib.hid (fun w => encode_any k n s hr w)
      rcases Bool.eq_false_or_eq_true (Rt k' n' s') with hr' | hr'
      · have E2 := Lib.hid (fun w => encode_any k' n' s' hr' w)
        have HS := Lib.hid (sorts k n s k' n' s' hr hr' HN1.out HN2.out)
        have ne1 : 0 < (encF k n s).length := encF_pos k n s
        have ne2 : 0 < (encF k' n' s').length := encF_pos k' n' s'
        generalize encF k n s = Z1 at *
        generalize encF k' n' s' = Z2 at *
        have NE1 := Lib.hid ne1
        have NE2 := Lib.hid ne2
        clear hr hr' ne1 ne2
        go_wp2_with fail
        refine (E1.out _).mono ?_
        rintro e w3 ⟨A1, cc1, rfl, ho, hb⟩
        have T3 := T2.on hb
        have HO1 := Lib.hid ho
        clear hb T2 c0 c1 c2 d0 d1 d2 ho
        obtain ⟨c0, c1, c2, d0, d1, d2⟩ := T3.six
        go_wp2_with fail
        refine (E2.out _).mono ?_
        rintro e w4 ⟨A2, cc2, rfl, ho, hb⟩
        have T4 := T3.on hb
        have HP1 := Lib.hid (HO1.out.below hb)
        have HP2 := Lib.hid ho
        clear hb T3 c0 c1 c2 d0 d1 d2 ho HO1
        have f1 : ∃ g, A1 = some ⟨g, 0, none⟩ := by
          rcases HP1.out.form with ⟨_, h, _⟩ | ⟨g, h, _⟩
          · have := NE1.out; omega
          · exact ⟨g, h⟩
        have f2 : ∃ g, A2 = some ⟨g, 0, none⟩ := by
          rcases HP2.out.form with ⟨_, h, _⟩ | ⟨g, h, _⟩
          · have := NE2.out; omega
          · exact ⟨g, h⟩
        obtain ⟨g1, rfl⟩ := f1
        obtain ⟨g2, rfl⟩ := f2
        go_upto_region 9 with (fail)
        have D9 := T4.drew
        have HC := Lib.hid (fun (W : World) (hb : Below w4.drew.heap.size w4.drew W) => bcompare_any W g1 g2 _ cc1 _ cc2 Z1 Z2 rfl rfl (fun j hj => (Own.below (w := w4.drew) HP1.out hb).at_ rfl j hj) (fun j hj => (Own.below (w := w4.drew) HP2.out hb).at_ rfl j hj))
        have HF1 := Lib.hid (fun (W : World) (hb : Below w4.drew.heap.size w4.drew W) => hasPrefix_any g1 g2 _ cc1 _ cc2 Z1 Z2 W _ _ (Own.below (w := w4.drew) HP1.out hb).by (Own.below (w := w4.drew) HP2.out hb).by HP1.out.cap)
        have HF2 := Lib.hid (fun (W : World) (hb : Below w4.drew.heap.size w4.drew W) => hasPrefix_any g2 g1 _ cc2 _ cc1 Z2 Z1 W _ _ (Own.below (w := w4.drew) HP2.out hb).by (Own.below (w := w4.drew) HP1.out hb).by HP2.out.cap)
        obtain ⟨h1, h2⟩ := HS.out
        rw [h1] at HC
        obtain ⟨cv, hcv⟩ : ∃ cv, cmpV k n s k' n' s' = cv := ⟨_, rfl⟩
        rw [hcv] at HC HM
        have ecv : (cv == cv) = true := by simp
        have B0 : Below w4.drew.heap.size w4.drew w4.drew := Below.refl _ _
        rcases h2 with h2 | ⟨h2, h3, h4⟩
        · have ev : Eqv k n s k' n' s' = true := decide_eq_true h2
          clear HS h1 h2 hcv HF1 HF2
          have hS0 : w4.drew.cell? ⟨w.heap.size, 0, none⟩ = some (.int .i64 k) ∧ w4.drew.cell? ⟨w.heap.size, 1, none⟩ = some (.int .i64 n) ∧ w4.drew.cell? ⟨w.heap.size, 2, none⟩ = some (.string s) ∧ w4.drew.cell? ⟨w.heap.size + 1, 0, none⟩ = some (.int .i64 k') ∧ w4.drew.cell? ⟨w.heap.size + 1, 1, none⟩ = some (.int .i64 n') ∧ w4.drew.cell? ⟨w.heap.size + 1, 2, none⟩ = some (.string s') := D9.six
          refine wp_region_noPanic ?_
          refine wp_region_held_drew (S := fun w' => w'.cell? ⟨w.heap.size, 0, none⟩ = some (.int .i64 k) ∧ w'.cell? ⟨w.heap.size, 1, none⟩ = some (.int .i64 n) ∧ w'.cell? ⟨w.heap.size, 2, none⟩ = some (.string s) ∧ w'.cell? ⟨w.heap.size + 1, 0, none⟩ = some (.int .i64 k') ∧ w'.cell? ⟨w.heap.size + 1, 1, none⟩ = some (.int .i64 n') ∧ w'.cell? ⟨w.heap.size + 1, 2, none⟩ = some (.string s')) (by kernel_rfl) hS0 (fun hHeld => ?_)
          clear hS0
          refine take_d (i := 0) (d := 31) (v := .slice (some ⟨g1, 0, none⟩) Z1.length cc1) rfl rfl (by kernel_rfl) (by kernel_rfl) (by kernel_rfl) (fun _ _ _ h => h) (Or.inl ⟨by kernel_rfl, ?hy⟩) hHeld ?_
          case hy => (intro w hSw; (try dsimp only at hSw); go_split_ands; go_simp)
          try simp only [Act.put, List.setIfInBounds_toArray, List.set_cons_zero, List.set_cons_succ]
          refine take_d (i := 1) (d := 32) (v := .slice (some ⟨g2, 0, none⟩) Z2.length cc2) rfl rfl (by kernel_rfl) (by kernel_rfl) (by kernel_rfl) (fun _ _ _ h => h) (Or.inl ⟨by kernel_rfl, ?hy⟩) hHeld ?_
          case hy => (intro w hSw; (try dsimp only at hSw); go_split_ands; go_simp)
          try simp only [Act.put, List.setIfInBounds_toArray, List.set_cons_zero, List.set_cons_succ]
          refine take_d (i := 3) (d := 34) (v := .agg #[.int .i64 k, .int .i64 n, .string s]) rfl rfl (by kernel_rfl) (by kernel_rfl) (by kernel_rfl) (fun _ _ _ h => h) (Or.inl ⟨by kernel_rfl, ?hy⟩) hHeld ?_
          case hy => (intro w hSw; (try dsimp only at hSw); go_split_ands; go_simp)
          try simp only [Act.put, List.setIfInBounds_toArray, List.set_cons_zero, List.set_cons_succ]
          refine take_d (i := 4) (d := 35) (v := .agg #[.int .i64 k', .int .i64 n', .string s']) rfl rfl (by kernel_rfl) (by kernel_rfl) (by kernel_rfl) (fun _ _ _ h => h) (Or.inl ⟨by kernel_rfl, ?hy⟩) hHeld ?_
          case hy => (intro w hSw; (try dsimp only at hSw); go_split_ands; go_simp)
          try simp only [Act.put, List.setIfInBounds_toArray, List.set_cons_zero, List.set_cons_succ]
          refine wpAnyH_ready (rs := [2]) (by kernel_rfl) (by simp) ?_
          refine AllReadyH.cons rfl (fun K hK => ?_) AllReadyH.nil
          go_simp
          refine (HC.out _ B0).mono ?_
          rintro e w' ⟨rfl, rfl⟩
          refine hK.out _ _ (D9.six) (fun hHeld => ?_)
          clear hK K
          try simp only [Act.put, List.setIfInBounds_toArray, List.set_cons_zero, List.set_cons_succ]
          refine wpAnyH_ready (rs := [5]) (by kernel_rfl) (by simp) ?_
          refine AllReadyH.cons rfl (fun K hK => ?_) AllReadyH.nil
          go_simp
          refine (HM.out _).mono ?_
          rintro e w5 ⟨rfl, hb5⟩
          refine hK.out _ _ ((D9.on hb5).six) (fun hHeld => ?_)
          clear hK K
          try simp only [Act.put, List.setIfInBounds_toArray, List.set_cons_zero, List.set_cons_succ]
          refine take_d (i := 6) (d := 37) (v := .bool true) rfl rfl (by kernel_rfl) (by kernel_rfl) (by kernel_rfl) (fun _ _ _ h => h) (Or.inl ⟨by kernel_rfl, ?hy⟩) hHeld ?_
          case hy => (intro w hSw; (try dsimp only at hSw); go_split_ands; go_simp)
          try simp only [Act.put, List.setIfInBounds_toArray, List.set_cons_zero, List.set_cons_succ]
          refine take_d (i := 7) (d := 38) (v := .bool true) rfl rfl (by kernel_rfl) (by kernel_rfl) (by kernel_rfl) (fun _ _ _ h => h) (Or.inl ⟨by kernel_rfl, ?hy⟩) hHeld ?_
          case hy => (intro w hSw; (try dsimp only at hSw); go_split_ands; go_simp)
          try simp only [Act.put, List.setIfInBounds_toArray, List.set_cons_zero, List.set_cons_succ]
          refine take_d (i := 8) (d := 39) (v := .agg #[.int .i64 k, .int .i64 n, .string s]) rfl rfl (by kernel_rfl) (by kernel_rfl) (by kernel_rfl) (fun _ _ _ h => h) (Or.inl ⟨by kernel_rfl, ?hy⟩) hHeld ?_
          case hy => (intro w hSw; (try dsimp only at hSw); go_split_ands; go_simp)
          try simp only [Act.put, List.setIfInBounds_toArray, List.set_cons_zero, List.set_cons_succ]
          refine take_d (i := 9) (d := 40) (v := .agg #[.int .i64 k', .int .i64 n', .string s']) rfl rfl (by kernel_rfl) (by kernel_rfl) (by kernel_rfl) (fun _ _ _ h => h) (Or.inl ⟨by kernel_rfl, ?hy⟩) hHeld ?_
          case hy => (intro w hSw; (try dsimp only at hSw); go_split_ands; go_simp)
          try simp only [Act.put, List.setIfInBounds_toArray, List.set_cons_zero, List.set_cons_succ]
          refine take_d (i := 10) (d := 41) (v := .bool true) rfl rfl (by kernel_rfl) (by kernel_rfl) (by kernel_rfl) (fun _ _ _ h => h) (Or.inl ⟨by kernel_rfl, ?hy⟩) hHeld ?_
          case hy => (intro w hSw; (try dsimp only at hSw); go_split_ands; go_simp)
          try simp only [Act.put, List.setIfInBounds_toArray, List.set_cons_zero, List.set_cons_succ]
          refine take_d (i := 11) (d := 42) (v := .bool true) rfl rfl (by kernel_rfl) (by kernel_rfl) (by kernel_rfl) (fun _ _ _ h => h) (Or.inl ⟨by kernel_rfl, ?hy⟩) hHeld ?_
          case hy => (intro w hSw; (try dsimp only at hSw); go_split_ands; go_simp)
          try simp only [Act.put, List.setIfInBounds_toArray, List.set_cons_zero, List.set_cons_succ]
          refine take_d (i := 12) (d := 43) (v := undef) rfl rfl (by kernel_rfl) (by kernel_rfl) (by kernel_rfl) (fun _ _ _ h => h) (Or.inr ⟨by kernel_rfl, rfl⟩) hHeld ?_
          try simp only [Act.put, List.setIfInBounds_toArray, List.set_cons_zero, List.set_cons_succ]
          refine take_d (i := 13) (d := 44) (v := undef) rfl rfl (by kernel_rfl) (by kernel_rfl) (by kernel_rfl) (fun _ _ _ h => h) (Or.inr ⟨by kernel_rfl, rfl⟩) hHeld ?_
          try simp only [Act.put, List.setIfInBounds_toArray, List.set_cons_zero, List.set_cons_succ]
          refine take_d (i := 14) (d := 45) (v := undef) rfl rfl (by kernel_rfl) (by kernel_rfl) (by kernel_rfl) (fun _ _ _ h => h) (Or.inr ⟨by kernel_rfl, rfl⟩) hHeld ?_
          try simp only [Act.put, List.setIfInBounds_toArray, List.set_cons_zero, List.set_cons_succ]
          refine take_d (i := 15) (d := 46) (v := undef) rfl rfl (by kernel_rfl) (by kernel_rfl) (by kernel_rfl) (fun _ _ _ h => h) (Or.inr ⟨by kernel_rfl, rfl⟩) hHeld ?_
          try simp only [Act.put, List.setIfInBounds_toArray, List.set_cons_zero, List.set_cons_succ]
          refine take_d (i := 16) (d := 47) (v := undef) rfl rfl (by kernel_rfl) (by kernel_rfl) (by kernel_rfl) (fun _ _ _ h => h) (Or.inr ⟨by kernel_rfl, rfl⟩) hHeld ?_
          try simp only [Act.put, List.setIfInBounds_toArray, List.set_cons_zero, List.set_cons_succ]
          refine take_d (i := 17) (d := 48) (v := undef) rfl rfl (by kernel_rfl) (by kernel_rfl) (by kernel_rfl) (fun _ _ _ h => h) (Or.inr ⟨by kernel_rfl, rfl⟩) hHeld ?_
          try simp only [Act.put, List.setIfInBounds_toArray, List.set_cons_zero, List.set_cons_succ]
          refine take_d (i := 18) (d := 49) (v := undef) rfl rfl (by kernel_rfl) (by kernel_rfl) (by kernel_rfl) (fun _ _ _ h => h) (Or.inr ⟨by kernel_rfl, rfl⟩) hHeld ?_
          try simp only [Act.put, List.setIfInBounds_toArray, List.set_cons_zero, List.set_cons_succ]
          refine take_d (i := 19) (d := 50) (v := undef) rfl rfl (by kernel_rfl) (by kernel_rfl) (by kernel_rfl) (fun _ _ _ h => h) (Or.inr ⟨by kernel_rfl, rfl⟩) hHeld ?_
          try simp only [Act.put, List.setIfInBounds_toArray, List.set_cons_zero, List.set_cons_succ]
          refine take_d (i := 20) (d := 51) (v := undef) rfl rfl (by kernel_rfl) (by kernel_rfl) (by kernel_rfl) (fun _ _ _ h => h) (Or.inr ⟨by kernel_rfl, rfl⟩) hHeld ?_
          try simp only [Act.put, List.setIfInBounds_toArray, List.set_cons_zero, List.set_cons_succ]
          refine take_d (i := 21) (d := 52) (v := undef) rfl rfl (by kernel_rfl) (by kernel_rfl) (by kernel_rfl) (fun _ _ _ h => h) (Or.inr ⟨by kernel_rfl, rfl⟩) hHeld ?_
          try simp only [Act.put, List.setIfInBounds_toArray, List.set_cons_zero, List.set_cons_succ]
          refine take_d (i := 22) (d := 53) (v := .bool true) rfl rfl (by kernel_rfl) (by kernel_rfl) (by kernel_rfl) (fun _ _ _ h => h) (Or.inl ⟨by kernel_rfl, ?hy⟩) hHeld ?_
          case hy => (intro w hSw; (try dsimp only at hSw); go_split_ands; go_simp)
          try simp only [Act.put, List.setIfInBounds_toArray, List.set_cons_zero, List.set_cons_succ]
          refine take_d (i := 23) (d := 54) (v := .bool true) rfl rfl (by kernel_rfl) (by kernel_rfl) (by kernel_rfl) (fun _ _ _ h => h) (Or.inl ⟨by kernel_rfl, ?hy⟩) hHeld ?_
          case hy => (intro w hSw; (try dsimp only at hSw); go_split_ands; go_simp)
          try simp only [Act.put, List.setIfInBounds_toArray, List.set_cons_zero, List.set_cons_succ]
          refine take_d (i := 24) (d := 4) (v := .bool true) rfl rfl (by kernel_rfl) (by kernel_rfl) (by kernel_rfl) (fun _ _ _ h => h) (Or.inl ⟨by kernel_rfl, ?hy⟩) hHeld ?_
          case hy => (intro w hSw; (try dsimp only at hSw); go_split_ands; go_simp)
          try simp only [Act.put, List.setIfInBounds_toArray, List.set_cons_zero, List.set_cons_succ]
          refine wpAnyH_done (by kernel_rfl) ?_ _
          have B5 := (D9.on hb5).bel
          clear hb5 hHeld
          refine NoPanic.normal ?_
          go_wp2
          go_ret
          exact ⟨rfl, B5⟩
        · have ev : Eqv k n s k' n' s' = false := decide_eq_false h2
          rw [h3] at HF1
          rw [h4] at HF2
          clear HS h1 h2 h3 h4 hcv
          have hS0 : w4.drew.cell? ⟨w.heap.size, 0, none⟩ = some (.int .i64 k) ∧ w4.drew.cell? ⟨w.heap.size, 1, none⟩ = some (.int .i64 n) ∧ w4.drew.cell? ⟨w.heap.size, 2, none⟩ = some (.string s) ∧ w4.drew.cell? ⟨w.heap.size + 1, 0, none⟩ = some (.int .i64 k') ∧ w4.drew.cell? ⟨w.heap.size + 1, 1, none⟩ = some (.int .i64 n') ∧ w4.drew.cell? ⟨w.heap.size + 1, 2, none⟩ = some (.string s') := D9.six
          refine wp_region_noPanic ?_
          refine wp_region_held_drew (S := fun w' => w'.cell? ⟨w.heap.size, 0, none⟩ = some (.int .i64 k) ∧ w'.cell? ⟨w.heap.size, 1, none⟩ = some (.int .i64 n) ∧ w'.cell? ⟨w.heap.size, 2, none⟩ = some (.string s) ∧ w'.cell? ⟨w.heap.size + 1, 0, none⟩ = some (.int .i64 k') ∧ w'.cell? ⟨w.heap.size + 1, 1, none⟩ = some (.int .i64 n') ∧ w'.cell? ⟨w.heap.size + 1, 2, none⟩ = some (.string s')) (by kernel_rfl) hS0 (fun hHeld => ?_)
          clear hS0
          refine take_d (i := 0) (d := 31) (v := .slice (some ⟨g1, 0, none⟩) Z1.length cc1) rfl rfl (by kernel_rfl) (by kernel_rfl) (by kernel_rfl) (fun _ _ _ h => h) (Or.inl ⟨by kernel_rfl, ?hy⟩) hHeld ?_
          case hy => (intro w hSw; (try dsimp only at hSw); go_split_ands; go_simp)
          try simp only [Act.put, List.setIfInBounds_toArray, List.set_cons_zero, List.set_cons_succ]
          refine take_d (i := 1) (d := 32) (v := .slice (some ⟨g2, 0, none⟩) Z2.length cc2) rfl rfl (by kernel_rfl) (by kernel_rfl) (by kernel_rfl) (fun _ _ _ h => h) (Or.inl ⟨by kernel_rfl, ?hy⟩) hHeld ?_
          case hy => (intro w hSw; (try dsimp only at hSw); go_split_ands; go_simp)
          try simp only [Act.put, List.setIfInBounds_toArray, List.set_cons_zero, List.set_cons_succ]
          refine take_d (i := 3) (d := 34) (v := .agg #[.int .i64 k, .int .i64 n, .string s]) rfl rfl (by kernel_rfl) (by kernel_rfl) (by kernel_rfl) (fun _ _ _ h => h) (Or.inl ⟨by kernel_rfl, ?hy⟩) hHeld ?_
          case hy => (intro w hSw; (try dsimp only at hSw); go_split_ands; go_simp)
          try simp only [Act.put, List.setIfInBounds_toArray, List.set_cons_zero, List.set_cons_succ]
          refine take_d (i := 4) (d := 35) (v := .agg #[.int .i64 k', .int .i64 n', .string s']) rfl rfl (by kernel_rfl) (by kernel_rfl) (by kernel_rfl) (fun _ _ _ h => h) (Or.inl ⟨by kernel_rfl, ?hy⟩) hHeld ?_
          case hy => (intro w hSw; (try dsimp only at hSw); go_split_ands; go_simp)
          try simp only [Act.put, List.setIfInBounds_toArray, List.set_cons_zero, List.set_cons_succ]
          refine wpAnyH_ready (rs := [2]) (by kernel_rfl) (by simp) ?_
          refine AllReadyH.cons rfl (fun K hK => ?_) AllReadyH.nil
          go_simp
          refine (HC.out _ B0).mono ?_
          rintro e w' ⟨rfl, rfl⟩
          refine hK.out _ _ (D9.six) (fun hHeld => ?_)
          clear hK K
          try simp only [Act.put, List.setIfInBounds_toArray, List.set_cons_zero, List.set_cons_succ]
          refine wpAnyH_ready (rs := [5]) (by kernel_rfl) (by simp) ?_
          refine AllReadyH.cons rfl (fun K hK => ?_) AllReadyH.nil
          go_simp
          refine (HM.out _).mono ?_
          rintro e w5 ⟨rfl, hb5⟩
          refine hK.out _ _ ((D9.on hb5).six) (fun hHeld => ?_)
          clear hK K
          try simp only [Act.put, List.setIfInBounds_toArray, List.set_cons_zero, List.set_cons_succ]
          refine take_d (i := 6) (d := 37) (v := .bool true) rfl rfl (by kernel_rfl) (by kernel_rfl) (by kernel_rfl) (fun _ _ _ h => h) (Or.inl ⟨by kernel_rfl, ?hy⟩) hHeld ?_
          case hy => (intro w hSw; (try dsimp only at hSw); go_split_ands; go_simp)
          try simp only [Act.put, List.setIfInBounds_toArray, List.set_cons_zero, List.set_cons_succ]
          refine take_d (i := 7) (d := 38) (v := .bool true) rfl rfl (by kernel_rfl) (by kernel_rfl) (by kernel_rfl) (fun _ _ _ h => h) (Or.inl ⟨by kernel_rfl, ?hy⟩) hHeld ?_
          case hy => (intro w hSw; (try dsimp only at hSw); go_split_ands; go_simp)
          try simp only [Act.put, List.setIfInBounds_toArray, List.set_cons_zero, List.set_cons_succ]
          refine take_d (i := 8) (d := 39) (v := .agg #[.int .i64 k, .int .i64 n, .string s]) rfl rfl (by kernel_rfl) (by kernel_rfl) (by kernel_rfl) (fun _ _ _ h => h) (Or.inl ⟨by kernel_rfl, ?hy⟩) hHeld ?_
          case hy => (intro w hSw; (try dsimp only at hSw); go_split_ands; go_simp)
          try simp only [Act.put, List.setIfInBounds_toArray, List.set_cons_zero, List.set_cons_succ]
          refine take_d (i := 9) (d := 40) (v := .agg #[.int .i64 k', .int .i64 n', .string s']) rfl rfl (by kernel_rfl) (by kernel_rfl) (by kernel_rfl) (fun _ _ _ h => h) (Or.inl ⟨by kernel_rfl, ?hy⟩) hHeld ?_
          case hy => (intro w hSw; (try dsimp only at hSw); go_split_ands; go_simp)
          try simp only [Act.put, List.setIfInBounds_toArray, List.set_cons_zero, List.set_cons_succ]
          refine take_d (i := 10) (d := 41) (v := .bool false) rfl rfl (by kernel_rfl) (by kernel_rfl) (by kernel_rfl) (fun _ _ _ h => h) (Or.inl ⟨by kernel_rfl, ?hy⟩) hHeld ?_
          case hy => (intro w hSw; (try dsimp only at hSw); go_split_ands; go_simp)
          try simp only [Act.put, List.setIfInBounds_toArray, List.set_cons_zero, List.set_cons_succ]
          refine take_d (i := 11) (d := 42) (v := .bool false) rfl rfl (by kernel_rfl) (by kernel_rfl) (by kernel_rfl) (fun _ _ _ h => h) (Or.inl ⟨by kernel_rfl, ?hy⟩) hHeld ?_
          case hy => (intro w hSw; (try dsimp only at hSw); go_split_ands; go_simp)
          try simp only [Act.put, List.setIfInBounds_toArray, List.set_cons_zero, List.set_cons_succ]
          refine take_d (i := 12) (d := 43) (v := .slice (some ⟨g1, 0, none⟩) Z1.length cc1) rfl rfl (by kernel_rfl) (by kernel_rfl) (by kernel_rfl) (fun _ _ _ h => h) (Or.inl ⟨by kernel_rfl, ?hy⟩) hHeld ?_
          case hy => (intro w hSw; (try dsimp only at hSw); go_split_ands; go_simp)
          try simp only [Act.put, List.setIfInBounds_toArray, List.set_cons_zero, List.set_cons_succ]
          refine take_d (i := 13) (d := 44) (v := .slice (some ⟨g2, 0, none⟩) Z2.length cc2) rfl rfl (by kernel_rfl) (by kernel_rfl) (by kernel_rfl) (fun _ _ _ h => h) (Or.inl ⟨by kernel_rfl, ?hy⟩) hHeld ?_
          case hy => (intro w hSw; (try dsimp only at hSw); go_split_ands; go_simp)
          try simp only [Act.put, List.setIfInBounds_toArray, List.set_cons_zero, List.set_cons_succ]
          refine wpAnyH_ready (rs := [14]) (by kernel_rfl) (by simp) ?_
          refine AllReadyH.cons rfl (fun K hK => ?_) AllReadyH.nil
          go_simp
          refine (HF1.out _ hb5).mono ?_
          rintro e w' ⟨rfl, rfl⟩
          refine hK.out _ _ ((D9.on hb5).six) (fun hHeld => ?_)
          clear hK K
          try simp only [Act.put, List.setIfInBounds_toArray, List.set_cons_zero, List.set_cons_succ]
          refine take_d (i := 15) (d := 46) (v := .bool true) rfl rfl (by kernel_rfl) (by kernel_rfl) (by kernel_rfl) (fun _ _ _ h => h) (Or.inl ⟨by kernel_rfl, ?hy⟩) hHeld ?_
          case hy => (intro w hSw; (try dsimp only at hSw); go_split_ands; go_simp)
          try simp only [Act.put, List.setIfInBounds_toArray, List.set_cons_zero, List.set_cons_succ]
          refine take_d (i := 16) (d := 47) (v := .bool true) rfl rfl (by kernel_rfl) (by kernel_rfl) (by kernel_rfl) (fun _ _ _ h => h) (Or.inl ⟨by kernel_rfl, ?hy⟩) hHeld ?_
          case hy => (intro w hSw; (try dsimp only at hSw); go_split_ands; go_simp)
          try simp only [Act.put, List.setIfInBounds_toArray, List.set_cons_zero, List.set_cons_succ]
          refine take_d (i := 17) (d := 48) (v := .slice (some ⟨g2, 0, none⟩) Z2.length cc2) rfl rfl (by kernel_rfl) (by kernel_rfl) (by kernel_rfl) (fun _ _ _ h => h) (Or.inl ⟨by kernel_rfl, ?hy⟩) hHeld ?_
          case hy => (intro w hSw; (try dsimp only at hSw); go_split_ands; go_simp)
          try simp only [Act.put, List.setIfInBounds_toArray, List.set_cons_zero, List.set_cons_succ]
          refine take_d (i := 18) (d := 49) (v := .slice (some ⟨g1, 0, none⟩) Z1.length cc1) rfl rfl (by kernel_rfl) (by kernel_rfl) (by kernel_rfl) (fun _ _ _ h => h) (Or.inl ⟨by kernel_rfl, ?hy⟩) hHeld ?_
          case hy => (intro w hSw; (try dsimp only at hSw); go_split_ands; go_simp)
          try simp only [Act.put, List.setIfInBounds_toArray, List.set_cons_zero, List.set_cons_succ]
          refine wpAnyH_ready (rs := [19]) (by kernel_rfl) (by simp) ?_
          refine AllReadyH.cons rfl (fun K hK => ?_) AllReadyH.nil
          go_simp
          refine (HF2.out _ hb5).mono ?_
          rintro e w' ⟨rfl, rfl⟩
          refine hK.out _ _ ((D9.on hb5).six) (fun hHeld => ?_)
          clear hK K
          try simp only [Act.put, List.setIfInBounds_toArray, List.set_cons_zero, List.set_cons_succ]
          refine take_d (i := 20) (d := 51) (v := .bool true) rfl rfl (by kernel_rfl) (by kernel_rfl) (by kernel_rfl) (fun _ _ _ h => h) (Or.inl ⟨by kernel_rfl, ?hy⟩) hHeld ?_
          case hy => (intro w hSw; (try dsimp only at hSw); go_split_ands; go_simp)
          try simp only [Act.put, List.setIfInBounds_toArray, List.set_cons_zero, List.set_cons_succ]
          refine take_d (i := 21) (d := 52) (v := .bool true) rfl rfl (by kernel_rfl) (by kernel_rfl) (by kernel_rfl) (fun _ _ _ h => h) (Or.inl ⟨by kernel_rfl, ?hy⟩) hHeld ?_
          case hy => (intro w hSw; (try dsimp only at hSw); go_split_ands; go_simp)
          try simp only [Act.put, List.setIfInBounds_toArray, List.set_cons_zero, List.set_cons_succ]
          refine take_d (i := 22) (d := 53) (v := .bool true) rfl rfl (by kernel_rfl) (by kernel_rfl) (by kernel_rfl) (fun _ _ _ h => h) (Or.inl ⟨by kernel_rfl, ?hy⟩) hHeld ?_
          case hy => (intro w hSw; (try dsimp only at hSw); go_split_ands; go_simp)
          try simp only [Act.put, List.setIfInBounds_toArray, List.set_cons_zero, List.set_cons_succ]
          refine take_d (i := 23) (d := 54) (v := .bool true) rfl rfl (by kernel_rfl) (by kernel_rfl) (by kernel_rfl) (fun _ _ _ h => h) (Or.inl ⟨by kernel_rfl, ?hy⟩) hHeld ?_
          case hy => (intro w hSw; (try dsimp only at hSw); go_split_ands; go_simp)
          try simp only [Act.put, List.setIfInBounds_toArray, List.set_cons_zero, List.set_cons_succ]
          refine take_d (i := 24) (d := 4) (v := .bool true) rfl rfl (by kernel_rfl) (by kernel_rfl) (by kernel_rfl) (fun _ _ _ h => h) (Or.inl ⟨by kernel_rfl, ?hy⟩) hHeld ?_
          case hy => (intro w hSw; (try dsimp only at hSw); go_split_ands; go_simp)
          try simp only [Act.put, List.setIfInBounds_toArray, List.set_cons_zero, List.set_cons_succ]
          refine wpAnyH_done (by kernel_rfl) ?_ _
          have D10 := D9.on hb5
          clear hb5 hHeld
          refine NoPanic.normal ?_
          go_wp2
          go_ret
          exact ⟨rfl, D10.bel⟩
      · have E2 := Lib.hid (fun w => enc_wrong k' n' s' w hr')
        clear hr hr'
        go_wp2_with fail
        refine (E1.out _).mono ?_
        rintro e w3 ⟨A1, cc1, rfl, ho, hb⟩
        have T3 := T2.on hb
        clear hb T2 c0 c1 c2 d0 d1 d2 ho
        obtain ⟨c0, c1, c2, d0, d1, d2⟩ := T3.six
        go_wp2_with fail
        refine (E2.out _).mono ?_
        rintro e w4 ⟨rfl, hb⟩
        have T4 := T3.on hb
        clear hb T3 c0 c1 c2 d0 d1 d2
        go_wp2
        go_ret
        exact ⟨rfl, T4.bel⟩
    · have E1 := Lib.hid (fun w => enc_wrong k n s w hr)
      clear hr
      go_wp2_with fail
      refine (E1.out _).mono ?_
      rintro e w3 ⟨rfl, hb⟩
      have T3 := T2.on hb
      clear hb T2 c0 c1 c2 d0 d1 d2
      obtain ⟨c0, c1, c2, d0, d1, d2⟩ := T3.six
      rcases Bool.eq_false_or_eq_true (Rt k' n' s') with hr' | hr'
      · have E2 := Lib.hid (fun w => encode_any k' n' s' hr' w)
        clear hr'
        go_wp2_with fail
        refine (E2.out _).mono ?_
        rintro e w4 ⟨A2, cc2, rfl, ho, hb⟩
        have T4 := T3.on hb
        clear hb T3 c0 c1 c2 d0 d1 d2 ho
        go_wp2
        go_ret
        exact ⟨rfl, T4.bel⟩
      · have E2 := Lib.hid (fun w => enc_wrong k' n' s' w hr')
        clear hr'
        go_wp2_with fail
        refine (E2.out _).mono ?_
        rintro e w4 ⟨rfl, hb⟩
        have T4 := T3.on hb
        clear hb T3 c0 c1 c2 d0 d1 d2
        go_wp2
        go_ret
        exact ⟨rfl, T4.bel⟩

end Go.Proofs.Ytndkoefchlclkaa
