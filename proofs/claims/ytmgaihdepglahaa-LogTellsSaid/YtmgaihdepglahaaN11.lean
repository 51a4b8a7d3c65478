/-
  Which spot is newer: the program's Newer.
-/
import Derived.Test.YtmgaihdepglahaaM6
import Derived.Deep.RegionWith
import Derived.Deep.Cut
namespace Go.Proofs.Ytmgaihdepglahaa
open Go.RowKit

theorem isnan_any (x : Int) (w : World) : Calls Try.prog 76 #[.int .u64 x] w fun e w' => e = .returned (.bool false) ∧ w = w' := by
  have h1 : (x != x) = false := by simp
  go_enter Try.func76, Try.ntmps76
  go_wp2
  go_ret
  exact ⟨rfl, rfl⟩
def cmpI (x y : Int) : Int := if x < y then -1 else if y < x then 1 else 0
theorem compare_any (x y : Int) (w : World) : Calls Try.prog 66 #[.int .u64 x, .int .u64 y] w fun e w' => e = .returned (.int .i64 (cmpI x y)) ∧ w = w' := by
  unfold cmpI
  by_cases h : x < y
  · have h1 : decide (x < y) = true := decide_eq_true h
    rw [if_pos h]
    clear h
    go_enter Try.func66, Try.ntmps66
    go_wp2_with (go_at_call 76; refine (isnan_any _ _).mono ?_; rintro e w' ⟨rfl, rfl⟩)
    go_ret
    exact ⟨rfl, rfl⟩
  · have h1 : decide (x < y) = false := decide_eq_false h
    rw [if_neg h]
    clear h
    by_cases k : y < x
    · have h2 : decide (y < x) = true := decide_eq_true k
      rw [if_pos k]
      clear k
      go_enter Try.func66, Try.ntmps66
      go_wp2_with (go_at_call 76; refine (isnan_any _ _).mono ?_; rintro e w' ⟨rfl, rfl⟩)
      go_ret
      exact ⟨rfl, rfl⟩
    · have h2 : decide (y < x) = false := decide_eq_false k
      rw [if_neg k]
      clear k
      go_enter Try.func66, Try.ntmps66
      go_wp2_with (go_at_call 76; refine (isnan_any _ _).mono ?_; rintro e w' ⟨rfl, rfl⟩)
      go_ret
      exact ⟨rfl, rfl⟩
theorem or_any (x y : Int) (g : Nat) (w : World) (h0 : w.cell? ⟨g, 0, none⟩ = some (.int .i64 x)) (h1 : w.cell? ⟨g, 1, none⟩ = some (.int .i64 y)) :
    Calls Try.prog 65 #[.slice (some ⟨g, 0, none⟩) 2 2] w fun e w' => e = .returned (.int .i64 (if x ≠ 0 then x else y)) ∧ w = w' := by
  by_cases hx : x = 0
  · subst hx
    rw [if_neg (by simp)]
    by_cases hy : y = 0
    · subst hy
      go_enter Try.func65, Try.ntmps65
      go_wp2
      go_loopw [8] (fun i wr => ∃ k : Nat, k ≤ 2 ∧ i = .int .i64 k ∧ wr = w) (fun i _ => 2 - (intOf i).toNat)
      case atStart => exact ⟨0, by omega, rfl, rfl⟩
      case round =>
        obtain ⟨k, hk, rfl, rfl⟩ := hrel
        rcases (by omega : k = 0 ∨ k = 1 ∨ k = 2) with rfl | rfl | rfl
        · go_wp2
          go_roundw
          case rel => exact ⟨1, by omega, (by first | rfl | trivial), trivial⟩
          case measure => simp [intOf]
        · go_wp2
          go_roundw
          case rel => exact ⟨2, by omega, (by first | rfl | trivial), trivial⟩
          case measure => simp [intOf]
        · go_wp2
          go_ret
          exact ⟨rfl, rfl⟩
    · have hy1 : (y != 0) = true := by simp [hy]
      go_enter Try.func65, Try.ntmps65
      go_wp2
      go_loopw [8] (fun i wr => ∃ k : Nat, k ≤ 1 ∧ i = .int .i64 k ∧ wr = w) (fun i _ => 2 - (intOf i).toNat)
      case atStart => exact ⟨0, by omega, rfl, rfl⟩
      case round =>
        obtain ⟨k, hk, rfl, rfl⟩ := hrel
        rcases (by omega : k = 0 ∨ k = 1) with rfl | rfl
        · go_wp2
          go_roundw
          case rel => exact ⟨1, by omega, (by first | rfl | trivial), trivial⟩
          case measure => simp [intOf]
        · go_wp2
          go_ret
          exact ⟨rfl, rfl⟩
  · have hx1 : (x != 0) = true := by simp [hx]
    rw [if_pos hx]
    go_enter Try.func65, Try.ntmps65
    go_wp2
    go_loopw [8] (fun i wr => i = .int .i64 0 ∧ wr = w) (fun i _ => 2 - (intOf i).toNat)
    case atStart => exact ⟨rfl, rfl⟩
    case round =>
      obtain ⟨rfl, rfl⟩ := hrel
      go_wp2
      go_ret
      exact ⟨rfl, rfl⟩
theorem newer_cmp (a b a' b' : Int) : rNewer a b a' b' = decide (0 < (if cmpI b b' ≠ 0 then cmpI b b' else cmpI a a')) := by
  unfold rNewer cmpI
  (repeat' split) <;> first | (rw [decide_eq_decide]; omega) | (simp; omega) | (exfalso; omega)
set_option maxRecDepth 100000 in
set_option maxHeartbeats 1000000 in
set_option maxRecDepth 100000 in
set_option maxHeartbeats 1000000 in
set_option maxRecDepth 100000 in
set_option maxHeartbeats 1000000 in
theorem Newer_any (ai at_ bi bt : Int) (w : World) : Calls Try.prog 38 #[.agg #[.int .u64 ai, .int .u64 at_], .agg #[.int .u64 bi, .int .u64 bt]] w fun e w' => e = .returned (.bool (rNewer ai at_ bi bt)) ∧ Below w.heap.size w w' := by
  rw [newer_cmp]
  have C1 := Lib.hid (compare_any at_ bt)
  have C2 := Lib.hid (compare_any ai bi)
  generalize cmpI at_ bt = u at *
  generalize cmpI ai bi = v at *
  have OR := Lib.hid (or_any u v)
  obtain ⟨z, hz⟩ : ∃ z, (if u ≠ 0 then u else v) = z := ⟨_, rfl⟩
  rw [hz]
  rw [hz] at OR
  clear hz
  obtain ⟨g, hg⟩ : ∃ g, w.heap.size = g := ⟨_, rfl⟩
  have b0 := Lib.hid (show Blk ((w.alloc (.cells #[.int .u64 ai, .int .u64 at_] 24)).alloc (.cells #[.int .u64 bi, .int .u64 bt] 24)).drew g 24 #[.int .u64 ai, .int .u64 at_] from hg ▸ ((Blk.new w 24 _).alloc _).drewN 1)
  have b1 := Lib.hid (show Blk ((w.alloc (.cells #[.int .u64 ai, .int .u64 at_] 24)).alloc (.cells #[.int .u64 bi, .int .u64 bt] 24)).drew (g + 1) 24 #[.int .u64 bi, .int .u64 bt] from (Blk.fresh (by simp [hg])).drewN 1)
  have HB := Lib.hid (show Below g w ((w.alloc (.cells #[.int .u64 ai, .int .u64 at_] 24)).alloc (.cells #[.int .u64 bi, .int .u64 bt] 24)).drew from (((Below.refl _ _).alloc (Nat.le_of_eq hg.symm) _).alloc (by simp; omega) _).drew)
  have C4 : Hid (∀ W, Blk W g 24 #[.int .u64 ai, .int .u64 at_] → Blk W (g + 1) 24 #[.int .u64 bi, .int .u64 bt] → (W.cell? ⟨g, 0, none⟩ = some (.int .u64 ai) ∧ W.cell? ⟨g, 1, none⟩ = some (.int .u64 at_)) ∧ (W.cell? ⟨g + 1, 0, none⟩ = some (.int .u64 bi) ∧ W.cell? ⟨g + 1, 1, none⟩ = some (.int .u64 bt))) := fun W h1 h2 => ⟨⟨h1.cell 0, h1.cell 1⟩, h2.cell 0, h2.cell 1⟩
  go_enter Try.func38, Try.ntmps38
  go_upto_region 1 with (fail)
  have hS0 := C4.out _ b0.out b1.out
  refine wp_region_noPanic ?_
  refine wp_region_held_drew (S := fun w' => (w'.cell? ⟨g, 0, none⟩ = some (.int .u64 ai) ∧ w'.cell? ⟨g, 1, none⟩ = some (.int .u64 at_)) ∧ (w'.cell? ⟨g + 1, 0, none⟩ = some (.int .u64 bi) ∧ w'.cell? ⟨g + 1, 1, none⟩ = some (.int .u64 bt))) (by kernel_rfl) hS0 (fun hHeld => ?_)
  generalize ((w.alloc (.cells #[.int .u64 ai, .int .u64 at_] 24)).alloc (.cells #[.int .u64 bi, .int .u64 bt] 24)).drew = W1 at *
  refine take_d (i := 0) (d := 5) (v := ?n5) rfl rfl (by kernel_rfl) (by kernel_rfl) (by kernel_rfl) (fun _ _ _ h => h) (Or.inl ⟨by kernel_rfl, ?n5h⟩) hHeld ?n5n
  case n5h => (intro w hSw; (try dsimp only at hSw); go_split_ands; go_simp; (try exact rfl))
  try simp only [Act.put, List.setIfInBounds_toArray, List.set_cons_zero, List.set_cons_succ]
  refine take_d (i := 1) (d := 6) (v := ?n6) rfl rfl (by kernel_rfl) (by kernel_rfl) (by kernel_rfl) (fun _ _ _ h => h) (Or.inl ⟨by kernel_rfl, ?n6h⟩) hHeld ?n6n
  case n6h => (intro w hSw; (try dsimp only at hSw); go_split_ands; go_simp; (try exact rfl))
  try simp only [Act.put, List.setIfInBounds_toArray, List.set_cons_zero, List.set_cons_succ]
  refine take_d (i := 2) (d := 7) (v := ?n7) rfl rfl (by kernel_rfl) (by kernel_rfl) (by kernel_rfl) (fun _ _ _ h => h) (Or.inl ⟨by kernel_rfl, ?n7h⟩) hHeld ?n7n
  case n7h => (intro w hSw; (try dsimp only at hSw); go_split_ands; go_simp; (try exact rfl))
  try simp only [Act.put, List.setIfInBounds_toArray, List.set_cons_zero, List.set_cons_succ]
  refine take_d (i := 3) (d := 8) (v := ?n8) rfl rfl (by kernel_rfl) (by kernel_rfl) (by kernel_rfl) (fun _ _ _ h => h) (Or.inl ⟨by kernel_rfl, ?n8h⟩) hHeld ?n8n
  case n8h => (intro w hSw; (try dsimp only at hSw); go_split_ands; go_simp; (try exact rfl))
  try simp only [Act.put, List.setIfInBounds_toArray, List.set_cons_zero, List.set_cons_succ]
  refine take_d (i := 5) (d := 10) (v := ?n10) rfl rfl (by kernel_rfl) (by kernel_rfl) (by kernel_rfl) (fun _ _ _ h => h) (Or.inl ⟨by kernel_rfl, ?n10h⟩) hHeld ?n10n
  case n10h => (intro w hSw; (try dsimp only at hSw); go_split_ands; go_simp; (try exact rfl))
  try simp only [Act.put, List.setIfInBounds_toArray, List.set_cons_zero, List.set_cons_succ]
  refine take_d (i := 6) (d := 11) (v := ?n11) rfl rfl (by kernel_rfl) (by kernel_rfl) (by kernel_rfl) (fun _ _ _ h => h) (Or.inl ⟨by kernel_rfl, ?n11h⟩) hHeld ?n11n
  case n11h => (intro w hSw; (try dsimp only at hSw); go_split_ands; go_simp; (try exact rfl))
  try simp only [Act.put, List.setIfInBounds_toArray, List.set_cons_zero, List.set_cons_succ]
  refine take_d (i := 7) (d := 12) (v := ?n12) rfl rfl (by kernel_rfl) (by kernel_rfl) (by kernel_rfl) (fun _ _ _ h => h) (Or.inl ⟨by kernel_rfl, ?n12h⟩) hHeld ?n12n
  case n12h => (intro w hSw; (try dsimp only at hSw); go_split_ands; go_simp; (try exact rfl))
  try simp only [Act.put, List.setIfInBounds_toArray, List.set_cons_zero, List.set_cons_succ]
  refine take_d (i := 8) (d := 13) (v := ?n13) rfl rfl (by kernel_rfl) (by kernel_rfl) (by kernel_rfl) (fun _ _ _ h => h) (Or.inl ⟨by kernel_rfl, ?n13h⟩) hHeld ?n13n
  case n13h => (intro w hSw; (try dsimp only at hSw); go_split_ands; go_simp; (try exact rfl))
  try simp only [Act.put, List.setIfInBounds_toArray, List.set_cons_zero, List.set_cons_succ]
  refine wpAnyH_ready (rs := [4]) (by kernel_rfl) (by simp) ?_
  refine AllReadyH.cons rfl (fun K hK => ?_) AllReadyH.nil
  go_simp
  refine (C1.out _).mono ?_
  rintro e w' ⟨rfl, rfl⟩
  refine hK.out _ _ (hS0) (fun hHeld => ?_)
  clear hK K
  try simp only [Act.put, List.setIfInBounds_toArray, List.set_cons_zero, List.set_cons_succ]
  refine wpAnyH_ready (rs := [9]) (by kernel_rfl) (by simp) ?_
  refine AllReadyH.cons rfl (fun K hK => ?_) AllReadyH.nil
  go_simp
  refine (C2.out _).mono ?_
  rintro e w' ⟨rfl, rfl⟩
  refine hK.out _ _ (hS0) (fun hHeld => ?_)
  clear hK K
  try simp only [Act.put, List.setIfInBounds_toArray, List.set_cons_zero, List.set_cons_succ]
  refine wpAnyH_ready (rs := [10]) (by kernel_rfl) (by simp) ?_
  refine AllReadyH.cons rfl (fun K hK => ?_) AllReadyH.nil
  go_simp
  have q0 : (W1.alloc (.cells #[.int .i64 u, .int .i64 v] 3)).cell? ⟨W1.heap.size, 0, none⟩ = some (.int .i64 u) := (Blk.new W1 3 _).cell 0
  have q1 : (W1.alloc (.cells #[.int .i64 u, .int .i64 v] 3)).cell? ⟨W1.heap.size, 1, none⟩ = some (.int .i64 v) := (Blk.new W1 3 _).cell 1
  refine hK.out _ _ (C4.out _ (b0.out.alloc _) (b1.out.alloc _)) (fun hHeld => ?_)
  clear hK K
  try simp only [Act.put, List.setIfInBounds_toArray, List.set_cons_zero, List.set_cons_succ]
  refine wpAnyH_ready (rs := [11]) (by kernel_rfl) (by simp) ?_
  refine AllReadyH.cons rfl (fun K hK => ?_) AllReadyH.nil
  go_simp
  refine (OR.out _ _ q0 q1).mono ?_
  rintro e w' ⟨rfl, rfl⟩
  refine hK.out _ _ (C4.out _ (b0.out.alloc _) (b1.out.alloc _)) (fun hHeld => ?_)
  clear hK K
  try simp only [Act.put, List.setIfInBounds_toArray, List.set_cons_zero, List.set_cons_succ]
  refine take_d (i := 12) (d := 17) (v := ?n17) rfl rfl (by kernel_rfl) (by kernel_rfl) (by kernel_rfl) (fun _ _ _ h => h) (Or.inl ⟨by kernel_rfl, ?n17h⟩) hHeld ?n17n
  case n17h => (intro w hSw; (try dsimp only at hSw); go_split_ands; go_simp; (try exact rfl))
  try simp only [Act.put, List.setIfInBounds_toArray, List.set_cons_zero, List.set_cons_succ]
  refine take_d (i := 13) (d := 4) (v := ?n4) rfl rfl (by kernel_rfl) (by kernel_rfl) (by kernel_rfl) (fun _ _ _ h => h) (Or.inl ⟨by kernel_rfl, ?n4h⟩) hHeld ?n4n
  case n4h => (intro w hSw; (try dsimp only at hSw); go_split_ands; go_simp; (try exact rfl))
  try simp only [Act.put, List.setIfInBounds_toArray, List.set_cons_zero, List.set_cons_succ]
  refine wpAnyH_done (by kernel_rfl) ?_ _
  refine NoPanic.normal ?_
  go_wp2
  go_ret
  exact ⟨rfl, by rw [hg]; exact HB.out.alloc (by have := HB.out.size; omega) _⟩

end Go.Proofs.Ytmgaihdepglahaa
