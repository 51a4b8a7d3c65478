/-
  The law BlakeBlocks, walked.
-/
import Derived.Test.YtbemnolgolecaaaDoorK3
import Derived.Test.YtbemnolgolecaaaDoorC4
import Derived.Test.YtbemnolgolecaaaDoorEq
namespace Go.Proofs.YtbemnolgolecaaaDoor
open Go.RowKit
attribute [local go_sem ↓] Tryd.z42 Tryd.z70 Tryd.z27 Tryd.z45 Tryd.z37 Tryd.z38

theorem ne42 (w : World) (a : List (BitVec 32)) (ha : a.length = 8) : (binOp .neq 42 (.agg (UL a).toArray) (.agg (UL a).toArray)).run Tryd.prog w = .ok (.bool false) w := by
  cases hi : Tryd.prog.info? 32 with
  | none =>
    have : (Tryd.prog.info? 32).isSome = true := by kernel_rfl
    rw [hi] at this
    cases this
  | some i0 =>
    have h := eq_ints w 42 32 8 .u32 i0 Tryd.underlying42 Tryd.underlying32 hi (by kernel_rfl) (a.map fun x => (tn x : Int)) (a.map fun x => (tn x : Int)) (by rw [List.length_map, ha]) (by rw [List.length_map, ha]) 9998
    have e : (a.map fun x => (tn x : Int)).map (Value.int .u32) = UL a := by rw [List.map_map]; rfl
    rw [e] at h
    have h' : (Op.equalIn 10000 42 (.agg (UL a).toArray) (.agg (UL a).toArray)).run Tryd.prog w = .ok true w := by
      refine h.trans ?_
      simp
    rw [run_neq_struct, h']
    rfl
def lastB (k : Nat) : Bool := k == 1
theorem ix47_0 (w : World) : (Instr.index 47 (.agg #[.bool false, .bool true]) (.int .i64 ((0 : Nat) : Int))).run Tryd.prog w = .ok (.bool (lastB 0)) w := by kernel_rfl
theorem ix47_1 (w : World) : (Instr.index 47 (.agg #[.bool false, .bool true]) (.int .i64 ((1 : Nat) : Int))).run Tryd.prog w = .ok (.bool (lastB 1)) w := by kernel_rfl
theorem ix47 (k : Nat) (hk : k < 2) (w : World) : (Instr.index 47 (.agg #[.bool false, .bool true]) (.int .i64 (k : Int))).run Tryd.prog w = .ok (.bool (lastB k)) w := by
  match k, hk with
  | 0, _ => exact ix47_0 w
  | 1, _ => exact ix47_1 w

structure LK (w0 : World) (h : List (BitVec 32)) (b : List Int) (w : World) : Prop where
  below : Below w0.heap.size w0 w
  gl : Gl w
  hb : Blk w w0.heap.size 42 (UL h).toArray
  bb : Blk w (w0.heap.size + 1) 45 (BL b).toArray
theorem LK.low {w0 w w' : World} {h : List (BitVec 32)} {b : List Int} (s : LK w0 h b w) (k : Below w.heap.size w w') : LK w0 h b w' := ⟨s.below.trans (k.mono s.below.size), s.gl.low k, s.hb.below k s.hb.lt, s.bb.below k s.bb.lt⟩
theorem LK.drew {w0 w : World} {h : List (BitVec 32)} {b : List Int} (s : LK w0 h b w) : LK w0 h b w.drew := ⟨s.below.drew, ⟨s.gl.s, s.gl.o, s.gl.f, s.gl.lt⟩, s.hb, s.bb⟩

set_option linter.unusedSimpArgs false in
set_option maxRecDepth 100000 in
set_option maxHeartbeats 2000000 in
theorem blocks_walk (h : List (BitVec 32)) (hh : h.length = 8) (b : List Int) (hb : b.length = 64) (bs : Bs b) (t : Int) (ht : 0 ≤ t ∧ t ≤ 18446744073709551615) (w : World) (hG : Gl w) :
    Calls Tryd.prog 5 #[.agg (UL h).toArray, .agg (BL b).toArray, .int .u64 t] w fun e w' => e = .returned (.bool true) ∧ Below w.heap.size w w' := by
  have X0 : Hid (LK w h b ((w.alloc (.cells (UL h).toArray 42)).alloc (.cells (BL b).toArray 45))) :=
    have b0 := ((Below.refl _ w).alloc (Nat.le_refl _) (.cells (UL h).toArray 42)).alloc (by simp) (.cells (BL b).toArray 45)
    ⟨b0, hG.low b0, (Blk.new w 42 _).alloc _, Blk.new' _ 45 _ (by simp)⟩
  have iH : Hid ((Tryd.prog.info? 42).map (·.size) = some (UL h).length) := show _ = _ by rw [UL.len, hh]; exact Tryd.i42
  have iB : Hid ((Tryd.prog.info? 45).map (·.size) = some (BL b).length) := show _ = _ by rw [BL.len, hb]; exact Tryd.i45
  have WK := Lib.hid (fun w g => wakes_any w g)
  have BK := Lib.hid (fun l w g => block_any h hh b hb bs t ht.1 (by omega) l w g)
  have RB := Lib.hid (fun l w => refblock_any h hh b hb bs t ht.1 (by omega) l w)
  have FL := Lib.hid (fun l => blockF_len h b t l hh)
  clear hh hb bs ht hG
  go_enter Tryd.func5, Tryd.ntmps5
  go_wp2_with fail
  refine (WK.out _ X0.out.gl).mono ?_
  rintro e w1 ⟨rfl, k1⟩
  have X1 := Lib.hid (X0.out.low k1)
  clear X0 k1 WK
  go_wp2_with fail
  go_loopw [12] (fun i wr => ∃ k : Nat, k ≤ 2 ∧ i = .int .i64 k ∧ LK w h b wr) (fun i _ => 2 - (intOf i).toNat)
  case atStart => exact ⟨0, Nat.zero_le _, rfl, X1.out⟩
  case round =>
    obtain ⟨k, hk, rfl, hx⟩ := hrel
    have X := Lib.hid hx
    clear X1 hx
    by_cases hlt : k < 2
    · have kI : ((k : Nat) : Int) < 2 := by omega
      have kI0 : (0 : Int) ≤ (k : Nat) := by omega
      have ix := fun w => ix47 k hlt w
      have B1 := Lib.hid (BK.out (lastB k))
      have B2 := Lib.hid (RB.out (lastB k))
      have FL1 := Lib.hid (FL.out (lastB k))
      generalize lastB k = l at *
      have hne := fun w => ne42 w (blockF h b t l) FL1.out
      generalize blockF h b t l = R at *
      go_wp2_with fail
      have hS0 : wr.drew.rangeAt w.heap.size 0 (UL h) ∧ wr.drew.rangeAt (w.heap.size + 1) 0 (BL b) := ⟨X.out.hb.rng, X.out.bb.rng⟩
      refine wp_region_noPanic ?_
      refine wp_region_held_drew (S := fun w' => w'.rangeAt w.heap.size 0 (UL h) ∧ w'.rangeAt (w.heap.size + 1) 0 (BL b)) (by kernel_rfl) hS0 (fun hHeld => ?_)
      refine take_d (i := 0) (d := 15) (v := .agg (UL h).toArray) rfl rfl (by kernel_rfl) (by kernel_rfl) (by kernel_rfl) (fun _ _ _ h => h) (yieldsIf_load_mid (by kernel_rfl) _ _ rfl _ _ rfl _ _ (fun w h => h.1) Tryd.underlying42 rfl iH.out) hHeld ?_
      try simp only [Act.put, List.setIfInBounds_toArray, List.set_cons_zero, List.set_cons_succ]
      refine take_d (i := 1) (d := 16) (v := .agg (BL b).toArray) rfl rfl (by kernel_rfl) (by kernel_rfl) (by kernel_rfl) (fun _ _ _ h => h) (yieldsIf_load_mid (by kernel_rfl) _ _ rfl _ _ rfl _ _ (fun w h => h.2) Tryd.underlying45 rfl iB.out) hHeld ?_
      try simp only [Act.put, List.setIfInBounds_toArray, List.set_cons_zero, List.set_cons_succ]
      refine take_d (i := 2) (d := 17) (v := .int .u64 t) rfl rfl (by kernel_rfl) (by kernel_rfl) (by kernel_rfl) (fun _ _ _ h => h) (Or.inl ⟨by kernel_rfl, fun w hSw => by go_simp⟩) hHeld ?_
      try simp only [Act.put, List.setIfInBounds_toArray, List.set_cons_zero, List.set_cons_succ]
      refine take_d (i := 3) (d := 18) (v := .bool l) rfl rfl (by kernel_rfl) (by kernel_rfl) (by kernel_rfl) (fun _ _ _ h => h) (Or.inl ⟨by kernel_rfl, fun w hSw => by go_simp⟩) hHeld ?_
      try simp only [Act.put, List.setIfInBounds_toArray, List.set_cons_zero, List.set_cons_succ]
      refine take_d (i := 5) (d := 20) (v := .agg (UL h).toArray) rfl rfl (by kernel_rfl) (by kernel_rfl) (by kernel_rfl) (fun _ _ _ h => h) (yieldsIf_load_mid (by kernel_rfl) _ _ rfl _ _ rfl _ _ (fun w h => h.1) Tryd.underlying42 rfl iH.out) hHeld ?_
      try simp only [Act.put, List.setIfInBounds_toArray, List.set_cons_zero, List.set_cons_succ]
      refine take_d (i := 6) (d := 21) (v := .agg (BL b).toArray) rfl rfl (by kernel_rfl) (by kernel_rfl) (by kernel_rfl) (fun _ _ _ h => h) (yieldsIf_load_mid (by kernel_rfl) _ _ rfl _ _ rfl _ _ (fun w h => h.2) Tryd.underlying45 rfl iB.out) hHeld ?_
      try simp only [Act.put, List.setIfInBounds_toArray, List.set_cons_zero, List.set_cons_succ]
      refine take_d (i := 7) (d := 22) (v := .int .u64 t) rfl rfl (by kernel_rfl) (by kernel_rfl) (by kernel_rfl) (fun _ _ _ h => h) (Or.inl ⟨by kernel_rfl, fun w hSw => by go_simp⟩) hHeld ?_
      try simp only [Act.put, List.setIfInBounds_toArray, List.set_cons_zero, List.set_cons_succ]
      refine take_d (i := 8) (d := 23) (v := .bool l) rfl rfl (by kernel_rfl) (by kernel_rfl) (by kernel_rfl) (fun _ _ _ h => h) (Or.inl ⟨by kernel_rfl, fun w hSw => by go_simp⟩) hHeld ?_
      try simp only [Act.put, List.setIfInBounds_toArray, List.set_cons_zero, List.set_cons_succ]
      refine wpAnyH_ready (rs := [4]) (by kernel_rfl) (by simp) ?_
      refine AllReadyH.cons rfl (fun K hK => ?_) AllReadyH.nil
      go_simp
      with_reducible refine (B1.out _ X.out.drew.gl).mono ?_
      rintro e w3 ⟨rfl, k3⟩
      have X3 := Lib.hid (X.out.drew.low k3)
      refine hK.out _ _ ⟨X3.out.hb.rng, X3.out.bb.rng⟩ (fun hHeld => ?_)
      clear hK K k3
      try simp only [Act.put, List.setIfInBounds_toArray, List.set_cons_zero, List.set_cons_succ]
      refine wpAnyH_ready (rs := [9]) (by kernel_rfl) (by simp) ?_
      refine AllReadyH.cons rfl (fun K hK => ?_) AllReadyH.nil
      go_simp
      with_reducible refine (B2.out _).mono ?_
      rintro e w4 ⟨rfl, k4⟩
      have X4 := Lib.hid (X3.out.low k4)
      refine hK.out _ _ ⟨X4.out.hb.rng, X4.out.bb.rng⟩ (fun hHeld => ?_)
      clear hK K k4
      try simp only [Act.put, List.setIfInBounds_toArray, List.set_cons_zero, List.set_cons_succ]
      refine take_d (i := 10) (d := 25) (v := .bool false) rfl rfl (by kernel_rfl) (by kernel_rfl) (by kernel_rfl) (fun _ _ _ h => h) (Or.inl ⟨by kernel_rfl, fun w hSw => by go_simp⟩) hHeld ?_
      try simp only [Act.put, List.setIfInBounds_toArray, List.set_cons_zero, List.set_cons_succ]
      refine wpAnyH_done (by kernel_rfl) ?_ _
      refine NoPanic.normal ?_
      go_wp2_with fail
      exact ⟨⟨k + 1, by omega, by go_num, X4.out⟩, by simp [intOf]; omega⟩
    · obtain rfl : k = 2 := by omega
      go_wp2_with fail
      go_ret
      exact ⟨rfl, X.out.below⟩

end Go.Proofs.YtbemnolgolecaaaDoor
