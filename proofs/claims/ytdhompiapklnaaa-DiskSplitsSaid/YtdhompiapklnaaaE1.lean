/-
  The document's Asked.
-/
import Derived.Test.YtdhompiapklnaaaE0
import Derived.Deep.Cut
namespace Go.Proofs.Ytdhompiapklnaaa
open Go.RowKit

def ZZ : Array Value := #[.slice none 0 0, .slice none 0 0, .int .i64 0, .int .i64 0, .bool false, .int .i64 0]
theorem Try.z32 : ∀ w, (zeroValue 32).run Try.prog w = .ok (.agg ZZ) w := (zero_of_info (v := .agg ZZ) (n := 6) (by kernel_rfl)).1
attribute [local go_sem ↓] Try.z39 Try.z86 Try.z75 Try.z32

set_option linter.unusedVariables false
set_option maxRecDepth 100000 in
set_option maxHeartbeats 1000000 in
theorem asked_dead (Ah : Option Addr) (nh ch : Nat) (Aq : Option Addr) (nq cq : Nat) (ar dm ops i : Int) (c : Bool) (w : World) :
    Calls Try.prog 59 #[.agg (rrow Ah nh ch Aq nq cq ar dm true ops).toArray, .int .i64 i, .bool c] w fun e w' =>
      e = .returned (.tuple #[.agg (rrow Ah nh ch Aq nq cq (ar) (dm) true (ops)).toArray, .int .i64 9]) ∧ Below w.heap.size w w' := by
  have b0 : Blk ((w.alloc (.cells (rrow Ah nh ch Aq nq cq ar dm true ops).toArray 32)).alloc (.cells ZZ 32)) w.heap.size 32 (rrow Ah nh ch Aq nq cq ar dm true ops).toArray := (Blk.new w 32 _).alloc _
  have b1 : Blk ((w.alloc (.cells (rrow Ah nh ch Aq nq cq ar dm true ops).toArray 32)).alloc (.cells ZZ 32)) (w.heap.size + 1) 32 ZZ := Blk.new' _ 32 _ (by simp)
  have hB : Below w.heap.size w ((w.alloc (.cells (rrow Ah nh ch Aq nq cq ar dm true ops).toArray 32)).alloc (.cells ZZ 32)) := ((Below.refl _ w).alloc (Nat.le_refl _) _).alloc (by simp) _
  have c0 : ((w.alloc (.cells (rrow Ah nh ch Aq nq cq ar dm true ops).toArray 32)).alloc (.cells ZZ 32)).cell? ⟨w.heap.size, 0, none⟩ = some (.slice Ah nh ch) := b0.cell 0
  have c2 : ((w.alloc (.cells (rrow Ah nh ch Aq nq cq ar dm true ops).toArray 32)).alloc (.cells ZZ 32)).cell? ⟨w.heap.size, 2, none⟩ = some (.int .i64 ar) := b0.cell 2
  have c3 : ((w.alloc (.cells (rrow Ah nh ch Aq nq cq ar dm true ops).toArray 32)).alloc (.cells ZZ 32)).cell? ⟨w.heap.size, 3, none⟩ = some (.int .i64 dm) := b0.cell 3
  have c4 : ((w.alloc (.cells (rrow Ah nh ch Aq nq cq ar dm true ops).toArray 32)).alloc (.cells ZZ 32)).cell? ⟨w.heap.size, 4, none⟩ = some (.bool true) := b0.cell 4
  have c5 : ((w.alloc (.cells (rrow Ah nh ch Aq nq cq ar dm true ops).toArray 32)).alloc (.cells ZZ 32)).cell? ⟨w.heap.size, 5, none⟩ = some (.int .i64 ops) := b0.cell 5
  have f2 := b0.frozen 2
  have f3 := b0.frozen 3
  have f4 := b0.frozen 4
  have f5 := b0.frozen 5
  go_enter Try.func59, Try.ntmps59
  go_upto_region 1 with (fail)
  generalize ((w.alloc (.cells (rrow Ah nh ch Aq nq cq ar dm true ops).toArray 32)).alloc (.cells ZZ 32)) = W0 at *
  have HX : Hid (Blk W0 w.heap.size 32 (rrow Ah nh ch Aq nq cq (ar) (dm) true (ops)).toArray) := b0
  have HY : Hid (Blk W0 (w.heap.size + 1) 32 ZZ) := b1
  have HB : Hid (Below w.heap.size w W0) := hB
  clear b0 b1 hB
  go_wp2_with (first
    | ((with_reducible refine at_load (t := 32) ?_); refine wpList_load_mid rfl 32 _ rfl w.heap.size 0 rfl (rrow Ah nh ch Aq nq cq (ar) (dm) true (ops)) _ HX.out.rng Try.underlying32 rfl Try.i32 ?_)
    | ((with_reducible refine at_store (t := 32) ?_); refine wpList_store_blk _ rfl 32 _ _ rfl (w.heap.size + 1) ZZ 32 (rrow Ah nh ch Aq nq cq (ar) (dm) true (ops)) rfl rfl HY.out rfl Try.i32 (rrow_one _ _ _ _ _ _ _ _ _ _) ?_; intro w9 hb9 ho9))
  refine bodyPost_ret (ret_cell_tmp (p := 6) (u := 7) (ty := 32) rfl _ _ (w.heap.size + 1) 32 _ _ rfl hb9 Try.underlying32 rfl Try.i32) rfl ?_
  exact ⟨rfl, HB.out.trans (ho9.below (by omega))⟩


set_option maxRecDepth 100000 in
set_option maxHeartbeats 1000000 in
theorem asked_low (Ah : Option Addr) (nh ch : Nat) (Aq : Option Addr) (nq cq : Nat) (ar dm ops i : Int) (c : Bool) (hi : i < 0) (w : World) :
    Calls Try.prog 59 #[.agg (rrow Ah nh ch Aq nq cq ar dm false ops).toArray, .int .i64 i, .bool c] w fun e w' =>
      e = .returned (.tuple #[.agg (rrow Ah nh ch Aq nq cq (ar) (dm) false (ops)).toArray, .int .i64 2]) ∧ Below w.heap.size w w' := by
  have b0 : Blk ((w.alloc (.cells (rrow Ah nh ch Aq nq cq ar dm false ops).toArray 32)).alloc (.cells ZZ 32)) w.heap.size 32 (rrow Ah nh ch Aq nq cq ar dm false ops).toArray := (Blk.new w 32 _).alloc _
  have b1 : Blk ((w.alloc (.cells (rrow Ah nh ch Aq nq cq ar dm false ops).toArray 32)).alloc (.cells ZZ 32)) (w.heap.size + 1) 32 ZZ := Blk.new' _ 32 _ (by simp)
  have hB : Below w.heap.size w ((w.alloc (.cells (rrow Ah nh ch Aq nq cq ar dm false ops).toArray 32)).alloc (.cells ZZ 32)) := ((Below.refl _ w).alloc (Nat.le_refl _) _).alloc (by simp) _
  have c0 : ((w.alloc (.cells (rrow Ah nh ch Aq nq cq ar dm false ops).toArray 32)).alloc (.cells ZZ 32)).cell? ⟨w.heap.size, 0, none⟩ = some (.slice Ah nh ch) := b0.cell 0
  have c2 : ((w.alloc (.cells (rrow Ah nh ch Aq nq cq ar dm false ops).toArray 32)).alloc (.cells ZZ 32)).cell? ⟨w.heap.size, 2, none⟩ = some (.int .i64 ar) := b0.cell 2
  have c3 : ((w.alloc (.cells (rrow Ah nh ch Aq nq cq ar dm false ops).toArray 32)).alloc (.cells ZZ 32)).cell? ⟨w.heap.size, 3, none⟩ = some (.int .i64 dm) := b0.cell 3
  have c4 : ((w.alloc (.cells (rrow Ah nh ch Aq nq cq ar dm false ops).toArray 32)).alloc (.cells ZZ 32)).cell? ⟨w.heap.size, 4, none⟩ = some (.bool false) := b0.cell 4
  have c5 : ((w.alloc (.cells (rrow Ah nh ch Aq nq cq ar dm false ops).toArray 32)).alloc (.cells ZZ 32)).cell? ⟨w.heap.size, 5, none⟩ = some (.int .i64 ops) := b0.cell 5
  have f2 := b0.frozen 2
  have f3 := b0.frozen 3
  have f4 := b0.frozen 4
  have f5 := b0.frozen 5
  go_enter Try.func59, Try.ntmps59
  go_upto_region 1 with (fail)
  generalize ((w.alloc (.cells (rrow Ah nh ch Aq nq cq ar dm false ops).toArray 32)).alloc (.cells ZZ 32)) = W0 at *
  have HX : Hid (Blk W0 w.heap.size 32 (rrow Ah nh ch Aq nq cq (ar) (dm) false (ops)).toArray) := b0
  have HY : Hid (Blk W0 (w.heap.size + 1) 32 ZZ) := b1
  have HB : Hid (Below w.heap.size w W0) := hB
  clear b0 b1 hB
  go_wp2_with (first
    | ((with_reducible refine at_load (t := 32) ?_); refine wpList_load_mid rfl 32 _ rfl w.heap.size 0 rfl (rrow Ah nh ch Aq nq cq (ar) (dm) false (ops)) _ HX.out.rng Try.underlying32 rfl Try.i32 ?_)
    | ((with_reducible refine at_store (t := 32) ?_); refine wpList_store_blk _ rfl 32 _ _ rfl (w.heap.size + 1) ZZ 32 (rrow Ah nh ch Aq nq cq (ar) (dm) false (ops)) rfl rfl HY.out rfl Try.i32 (rrow_one _ _ _ _ _ _ _ _ _ _) ?_; intro w9 hb9 ho9))
  refine bodyPost_ret (ret_cell_tmp (p := 6) (u := 7) (ty := 32) rfl _ _ (w.heap.size + 1) 32 _ _ rfl hb9 Try.underlying32 rfl Try.i32) rfl ?_
  exact ⟨rfl, HB.out.trans (ho9.below (by omega))⟩


set_option maxRecDepth 100000 in
set_option maxHeartbeats 1000000 in
theorem asked_high (Ah : Option Addr) (nh ch : Nat) (Aq : Option Addr) (nq cq : Nat) (ar dm ops i : Int) (c : Bool) (hi0 : 0 ≤ i) (hi : (nh : Int) ≤ i) (w : World) :
    Calls Try.prog 59 #[.agg (rrow Ah nh ch Aq nq cq ar dm false ops).toArray, .int .i64 i, .bool c] w fun e w' =>
      e = .returned (.tuple #[.agg (rrow Ah nh ch Aq nq cq (ar) (dm) false (ops)).toArray, .int .i64 2]) ∧ Below w.heap.size w w' := by
  have b0 : Blk ((w.alloc (.cells (rrow Ah nh ch Aq nq cq ar dm false ops).toArray 32)).alloc (.cells ZZ 32)) w.heap.size 32 (rrow Ah nh ch Aq nq cq ar dm false ops).toArray := (Blk.new w 32 _).alloc _
  have b1 : Blk ((w.alloc (.cells (rrow Ah nh ch Aq nq cq ar dm false ops).toArray 32)).alloc (.cells ZZ 32)) (w.heap.size + 1) 32 ZZ := Blk.new' _ 32 _ (by simp)
  have hB : Below w.heap.size w ((w.alloc (.cells (rrow Ah nh ch Aq nq cq ar dm false ops).toArray 32)).alloc (.cells ZZ 32)) := ((Below.refl _ w).alloc (Nat.le_refl _) _).alloc (by simp) _
  have c0 : ((w.alloc (.cells (rrow Ah nh ch Aq nq cq ar dm false ops).toArray 32)).alloc (.cells ZZ 32)).cell? ⟨w.heap.size, 0, none⟩ = some (.slice Ah nh ch) := b0.cell 0
  have c2 : ((w.alloc (.cells (rrow Ah nh ch Aq nq cq ar dm false ops).toArray 32)).alloc (.cells ZZ 32)).cell? ⟨w.heap.size, 2, none⟩ = some (.int .i64 ar) := b0.cell 2
  have c3 : ((w.alloc (.cells (rrow Ah nh ch Aq nq cq ar dm false ops).toArray 32)).alloc (.cells ZZ 32)).cell? ⟨w.heap.size, 3, none⟩ = some (.int .i64 dm) := b0.cell 3
  have c4 : ((w.alloc (.cells (rrow Ah nh ch Aq nq cq ar dm false ops).toArray 32)).alloc (.cells ZZ 32)).cell? ⟨w.heap.size, 4, none⟩ = some (.bool false) := b0.cell 4
  have c5 : ((w.alloc (.cells (rrow Ah nh ch Aq nq cq ar dm false ops).toArray 32)).alloc (.cells ZZ 32)).cell? ⟨w.heap.size, 5, none⟩ = some (.int .i64 ops) := b0.cell 5
  have f2 := b0.frozen 2
  have f3 := b0.frozen 3
  have f4 := b0.frozen 4
  have f5 := b0.frozen 5
  go_enter Try.func59, Try.ntmps59
  go_upto_region 1 with (fail)
  generalize ((w.alloc (.cells (rrow Ah nh ch Aq nq cq ar dm false ops).toArray 32)).alloc (.cells ZZ 32)) = W0 at *
  have HX : Hid (Blk W0 w.heap.size 32 (rrow Ah nh ch Aq nq cq (ar) (dm) false (ops)).toArray) := b0
  have HY : Hid (Blk W0 (w.heap.size + 1) 32 ZZ) := b1
  have HB : Hid (Below w.heap.size w W0) := hB
  clear b0 b1 hB
  go_wp2_with (first
    | ((with_reducible refine at_load (t := 32) ?_); refine wpList_load_mid rfl 32 _ rfl w.heap.size 0 rfl (rrow Ah nh ch Aq nq cq (ar) (dm) false (ops)) _ HX.out.rng Try.underlying32 rfl Try.i32 ?_)
    | ((with_reducible refine at_store (t := 32) ?_); refine wpList_store_blk _ rfl 32 _ _ rfl (w.heap.size + 1) ZZ 32 (rrow Ah nh ch Aq nq cq (ar) (dm) false (ops)) rfl rfl HY.out rfl Try.i32 (rrow_one _ _ _ _ _ _ _ _ _ _) ?_; intro w9 hb9 ho9))
  refine bodyPost_ret (ret_cell_tmp (p := 6) (u := 7) (ty := 32) rfl _ _ (w.heap.size + 1) 32 _ _ rfl hb9 Try.underlying32 rfl Try.i32) rfl ?_
  exact ⟨rfl, HB.out.trans (ho9.below (by omega))⟩


set_option maxRecDepth 100000 in
set_option maxHeartbeats 1000000 in
theorem asked_armeda (Ah : Option Addr) (nh ch : Nat) (Aq : Option Addr) (nq cq : Nat) (ar dm ops i : Int) (h1 : -1 ≤ dm) (h2 : dm ≤ 9223372036854775807) (h3 : -1 ≤ ar) (h4 : ar ≤ 9223372036854775807) (hi0 : 0 ≤ i) (hi1 : i < (nh : Int)) (hn : nh ≤ 9223372036854775807) (h0 : (ar == 0) = true) (hd1 : 0 ≤ dm) (w : World) :
    Calls Try.prog 59 #[.agg (rrow Ah nh ch Aq nq cq ar dm false ops).toArray, .int .i64 i, .bool true] w fun e w' =>
      e = .returned (.tuple #[.agg (rrow Ah nh ch Aq nq cq (ar) (dm - 1) true (ops)).toArray, .int .i64 9]) ∧ Below w.heap.size w w' := by
  have b0 : Blk ((w.alloc (.cells (rrow Ah nh ch Aq nq cq ar dm false ops).toArray 32)).alloc (.cells ZZ 32)) w.heap.size 32 (rrow Ah nh ch Aq nq cq ar dm false ops).toArray := (Blk.new w 32 _).alloc _
  have b1 : Blk ((w.alloc (.cells (rrow Ah nh ch Aq nq cq ar dm false ops).toArray 32)).alloc (.cells ZZ 32)) (w.heap.size + 1) 32 ZZ := Blk.new' _ 32 _ (by simp)
  have hB : Below w.heap.size w ((w.alloc (.cells (rrow Ah nh ch Aq nq cq ar dm false ops).toArray 32)).alloc (.cells ZZ 32)) := ((Below.refl _ w).alloc (Nat.le_refl _) _).alloc (by simp) _
  have c0 : ((w.alloc (.cells (rrow Ah nh ch Aq nq cq ar dm false ops).toArray 32)).alloc (.cells ZZ 32)).cell? ⟨w.heap.size, 0, none⟩ = some (.slice Ah nh ch) := b0.cell 0
  have c2 : ((w.alloc (.cells (rrow Ah nh ch Aq nq cq ar dm false ops).toArray 32)).alloc (.cells ZZ 32)).cell? ⟨w.heap.size, 2, none⟩ = some (.int .i64 ar) := b0.cell 2
  have c3 : ((w.alloc (.cells (rrow Ah nh ch Aq nq cq ar dm false ops).toArray 32)).alloc (.cells ZZ 32)).cell? ⟨w.heap.size, 3, none⟩ = some (.int .i64 dm) := b0.cell 3
  have c4 : ((w.alloc (.cells (rrow Ah nh ch Aq nq cq ar dm false ops).toArray 32)).alloc (.cells ZZ 32)).cell? ⟨w.heap.size, 4, none⟩ = some (.bool false) := b0.cell 4
  have c5 : ((w.alloc (.cells (rrow Ah nh ch Aq nq cq ar dm false ops).toArray 32)).alloc (.cells ZZ 32)).cell? ⟨w.heap.size, 5, none⟩ = some (.int .i64 ops) := b0.cell 5
  have f2 := b0.frozen 2
  have f3 := b0.frozen 3
  have f4 := b0.frozen 4
  have f5 := b0.frozen 5
  go_enter Try.func59, Try.ntmps59
  go_upto_region 1 with (fail)
  generalize ((w.alloc (.cells (rrow Ah nh ch Aq nq cq ar dm false ops).toArray 32)).alloc (.cells ZZ 32)) = W0 at *
  have HX : Hid (Blk ((W0.setCell ⟨w.heap.size, 3, none⟩ (.int .i64 (dm - 1))).setCell ⟨w.heap.size, 4, none⟩ (.bool true)) w.heap.size 32 (rrow Ah nh ch Aq nq cq (ar) (dm - 1) true (ops)).toArray) := ((b0.set_ 3 (.int .i64 (dm - 1))).set_ 4 (.bool true))
  have HY : Hid (Blk ((W0.setCell ⟨w.heap.size, 3, none⟩ (.int .i64 (dm - 1))).setCell ⟨w.heap.size, 4, none⟩ (.bool true)) (w.heap.size + 1) 32 ZZ) := ((b1.far (p := ⟨w.heap.size, 3, none⟩) (by simp) (.int .i64 (dm - 1))).far (p := ⟨w.heap.size, 4, none⟩) (by simp) (.bool true))
  have HB : Hid (Below w.heap.size w ((W0.setCell ⟨w.heap.size, 3, none⟩ (.int .i64 (dm - 1))).setCell ⟨w.heap.size, 4, none⟩ (.bool true))) := ((hB.setCell (p := ⟨w.heap.size, 3, none⟩) (Nat.le_refl _) (.int .i64 (dm - 1))).setCell (p := ⟨w.heap.size, 4, none⟩) (Nat.le_refl _) (.bool true))
  clear b0 b1 hB
  have hnn := hn
  have nlt : ¬ i < 0 := by omega
  have nge : ¬ (i ≥ (nh : Int)) := by omega
  go_wp2_with (first
    | ((with_reducible refine at_load (t := 32) ?_); refine wpList_load_mid rfl 32 _ rfl w.heap.size 0 rfl (rrow Ah nh ch Aq nq cq (ar) (dm - 1) true (ops)) _ HX.out.rng Try.underlying32 rfl Try.i32 ?_)
    | ((with_reducible refine at_store (t := 32) ?_); refine wpList_store_blk _ rfl 32 _ _ rfl (w.heap.size + 1) ZZ 32 (rrow Ah nh ch Aq nq cq (ar) (dm - 1) true (ops)) rfl rfl HY.out rfl Try.i32 (rrow_one _ _ _ _ _ _ _ _ _ _) ?_; intro w9 hb9 ho9))
  refine bodyPost_ret (ret_cell_tmp (p := 6) (u := 7) (ty := 32) rfl _ _ (w.heap.size + 1) 32 _ _ rfl hb9 Try.underlying32 rfl Try.i32) rfl ?_
  exact ⟨rfl, HB.out.trans (ho9.below (by omega))⟩


set_option maxRecDepth 100000 in
set_option maxHeartbeats 1000000 in
theorem asked_goesFa (Ah : Option Addr) (nh ch : Nat) (Aq : Option Addr) (nq cq : Nat) (ar dm ops i : Int) (h1 : -1 ≤ dm) (h2 : dm ≤ 9223372036854775807) (h3 : -1 ≤ ar) (h4 : ar ≤ 9223372036854775807) (hi0 : 0 ≤ i) (hi1 : i < (nh : Int)) (hn : nh ≤ 9223372036854775807) (g0 : (dm == 0) = false) (hd1 : 0 ≤ dm) (w : World) :
    Calls Try.prog 59 #[.agg (rrow Ah nh ch Aq nq cq ar dm false ops).toArray, .int .i64 i, .bool false] w fun e w' =>
      e = .returned (.tuple #[.agg (rrow Ah nh ch Aq nq cq (ar) (dm - 1) false (wrap64 (ops + 1))).toArray, .int .i64 0]) ∧ Below w.heap.size w w' := by
  have b0 : Blk ((w.alloc (.cells (rrow Ah nh ch Aq nq cq ar dm false ops).toArray 32)).alloc (.cells ZZ 32)) w.heap.size 32 (rrow Ah nh ch Aq nq cq ar dm false ops).toArray := (Blk.new w 32 _).alloc _
  have b1 : Blk ((w.alloc (.cells (rrow Ah nh ch Aq nq cq ar dm false ops).toArray 32)).alloc (.cells ZZ 32)) (w.heap.size + 1) 32 ZZ := Blk.new' _ 32 _ (by simp)
  have hB : Below w.heap.size w ((w.alloc (.cells (rrow Ah nh ch Aq nq cq ar dm false ops).toArray 32)).alloc (.cells ZZ 32)) := ((Below.refl _ w).alloc (Nat.le_refl _) _).alloc (by simp) _
  have c0 : ((w.alloc (.cells (rrow Ah nh ch Aq nq cq ar dm false ops).toArray 32)).alloc (.cells ZZ 32)).cell? ⟨w.heap.size, 0, none⟩ = some (.slice Ah nh ch) := b0.cell 0
  have c2 : ((w.alloc (.cells (rrow Ah nh ch Aq nq cq ar dm false ops).toArray 32)).alloc (.cells ZZ 32)).cell? ⟨w.heap.size, 2, none⟩ = some (.int .i64 ar) := b0.cell 2
  have c3 : ((w.alloc (.cells (rrow Ah nh ch Aq nq cq ar dm false ops).toArray 32)).alloc (.cells ZZ 32)).cell? ⟨w.heap.size, 3, none⟩ = some (.int .i64 dm) := b0.cell 3
  have c4 : ((w.alloc (.cells (rrow Ah nh ch Aq nq cq ar dm false ops).toArray 32)).alloc (.cells ZZ 32)).cell? ⟨w.heap.size, 4, none⟩ = some (.bool false) := b0.cell 4
  have c5 : ((w.alloc (.cells (rrow Ah nh ch Aq nq cq ar dm false ops).toArray 32)).alloc (.cells ZZ 32)).cell? ⟨w.heap.size, 5, none⟩ = some (.int .i64 ops) := b0.cell 5
  have f2 := b0.frozen 2
  have f3 := b0.frozen 3
  have f4 := b0.frozen 4
  have f5 := b0.frozen 5
  go_enter Try.func59, Try.ntmps59
  go_upto_region 1 with (fail)
  generalize ((w.alloc (.cells (rrow Ah nh ch Aq nq cq ar dm false ops).toArray 32)).alloc (.cells ZZ 32)) = W0 at *
  have HX : Hid (Blk ((W0.setCell ⟨w.heap.size, 3, none⟩ (.int .i64 (dm - 1))).setCell ⟨w.heap.size, 5, none⟩ (.int .i64 (wrap64 (ops + 1)))) w.heap.size 32 (rrow Ah nh ch Aq nq cq (ar) (dm - 1) false (wrap64 (ops + 1))).toArray) := ((b0.set_ 3 (.int .i64 (dm - 1))).set_ 5 (.int .i64 (wrap64 (ops + 1))))
  have HY : Hid (Blk ((W0.setCell ⟨w.heap.size, 3, none⟩ (.int .i64 (dm - 1))).setCell ⟨w.heap.size, 5, none⟩ (.int .i64 (wrap64 (ops + 1)))) (w.heap.size + 1) 32 ZZ) := ((b1.far (p := ⟨w.heap.size, 3, none⟩) (by simp) (.int .i64 (dm - 1))).far (p := ⟨w.heap.size, 5, none⟩) (by simp) (.int .i64 (wrap64 (ops + 1))))
  have HB : Hid (Below w.heap.size w ((W0.setCell ⟨w.heap.size, 3, none⟩ (.int .i64 (dm - 1))).setCell ⟨w.heap.size, 5, none⟩ (.int .i64 (wrap64 (ops + 1))))) := ((hB.setCell (p := ⟨w.heap.size, 3, none⟩) (Nat.le_refl _) (.int .i64 (dm - 1))).setCell (p := ⟨w.heap.size, 5, none⟩) (Nat.le_refl _) (.int .i64 (wrap64 (ops + 1))))
  clear b0 b1 hB
  have hnn := hn
  have nlt : ¬ i < 0 := by omega
  have nge : ¬ (i ≥ (nh : Int)) := by omega
  go_wp2_with (first
    | ((with_reducible refine at_load (t := 32) ?_); refine wpList_load_mid rfl 32 _ rfl w.heap.size 0 rfl (rrow Ah nh ch Aq nq cq (ar) (dm - 1) false (wrap64 (ops + 1))) _ HX.out.rng Try.underlying32 rfl Try.i32 ?_)
    | ((with_reducible refine at_store (t := 32) ?_); refine wpList_store_blk _ rfl 32 _ _ rfl (w.heap.size + 1) ZZ 32 (rrow Ah nh ch Aq nq cq (ar) (dm - 1) false (wrap64 (ops + 1))) rfl rfl HY.out rfl Try.i32 (rrow_one _ _ _ _ _ _ _ _ _ _) ?_; intro w9 hb9 ho9))
  refine bodyPost_ret (ret_cell_tmp (p := 6) (u := 7) (ty := 32) rfl _ _ (w.heap.size + 1) 32 _ _ rfl hb9 Try.underlying32 rfl Try.i32) rfl ?_
  exact ⟨rfl, HB.out.trans (ho9.below (by omega))⟩


set_option maxRecDepth 100000 in
set_option maxHeartbeats 1000000 in
theorem asked_goesTaa (Ah : Option Addr) (nh ch : Nat) (Aq : Option Addr) (nq cq : Nat) (ar dm ops i : Int) (h1 : -1 ≤ dm) (h2 : dm ≤ 9223372036854775807) (h3 : -1 ≤ ar) (h4 : ar ≤ 9223372036854775807) (hi0 : 0 ≤ i) (hi1 : i < (nh : Int)) (hn : nh ≤ 9223372036854775807) (h0 : (ar == 0) = false) (g0 : (dm == 0) = false) (hd1 : 0 ≤ dm) (ha1 : 0 ≤ ar) (w : World) :
    Calls Try.prog 59 #[.agg (rrow Ah nh ch Aq nq cq ar dm false ops).toArray, .int .i64 i, .bool true] w fun e w' =>
      e = .returned (.tuple #[.agg (rrow Ah nh ch Aq nq cq (ar - 1) (dm - 1) false (wrap64 (ops + 1))).toArray, .int .i64 0]) ∧ Below w.heap.size w w' := by
  have b0 : Blk ((w.alloc (.cells (rrow Ah nh ch Aq nq cq ar dm false ops).toArray 32)).alloc (.cells ZZ 32)) w.heap.size 32 (rrow Ah nh ch Aq nq cq ar dm false ops).toArray := (Blk.new w 32 _).alloc _
  have b1 : Blk ((w.alloc (.cells (rrow Ah nh ch Aq nq cq ar dm false ops).toArray 32)).alloc (.cells ZZ 32)) (w.heap.size + 1) 32 ZZ := Blk.new' _ 32 _ (by simp)
  have hB : Below w.heap.size w ((w.alloc (.cells (rrow Ah nh ch Aq nq cq ar dm false ops).toArray 32)).alloc (.cells ZZ 32)) := ((Below.refl _ w).alloc (Nat.le_refl _) _).alloc (by simp) _
  have c0 : ((w.alloc (.cells (rrow Ah nh ch Aq nq cq ar dm false ops).toArray 32)).alloc (.cells ZZ 32)).cell? ⟨w.heap.size, 0, none⟩ = some (.slice Ah nh ch) := b0.cell 0
  have c2 : ((w.alloc (.cells (rrow Ah nh ch Aq nq cq ar dm false ops).toArray 32)).alloc (.cells ZZ 32)).cell? ⟨w.heap.size, 2, none⟩ = some (.int .i64 ar) := b0.cell 2
  have c3 : ((w.alloc (.cells (rrow Ah nh ch Aq nq cq ar dm false ops).toArray 32)).alloc (.cells ZZ 32)).cell? ⟨w.heap.size, 3, none⟩ = some (.int .i64 dm) := b0.cell 3
  have c4 : ((w.alloc (.cells (rrow Ah nh ch Aq nq cq ar dm false ops).toArray 32)).alloc (.cells ZZ 32)).cell? ⟨w.heap.size, 4, none⟩ = some (.bool false) := b0.cell 4
  have c5 : ((w.alloc (.cells (rrow Ah nh ch Aq nq cq ar dm false ops).toArray 32)).alloc (.cells ZZ 32)).cell? ⟨w.heap.size, 5, none⟩ = some (.int .i64 ops) := b0.cell 5
  have f2 := b0.frozen 2
  have f3 := b0.frozen 3
  have f4 := b0.frozen 4
  have f5 := b0.frozen 5
  go_enter Try.func59, Try.ntmps59
  go_upto_region 1 with (fail)
  generalize ((w.alloc (.cells (rrow Ah nh ch Aq nq cq ar dm false ops).toArray 32)).alloc (.cells ZZ 32)) = W0 at *
  have HX : Hid (Blk (((W0.setCell ⟨w.heap.size, 3, none⟩ (.int .i64 (dm - 1))).setCell ⟨w.heap.size, 2, none⟩ (.int .i64 (ar - 1))).setCell ⟨w.heap.size, 5, none⟩ (.int .i64 (wrap64 (ops + 1)))) w.heap.size 32 (rrow Ah nh ch Aq nq cq (ar - 1) (dm - 1) false (wrap64 (ops + 1))).toArray) := (((b0.set_ 3 (.int .i64 (dm - 1))).set_ 2 (.int .i64 (ar - 1))).set_ 5 (.int .i64 (wrap64 (ops + 1))))
  have HY : Hid (Blk (((W0.setCell ⟨w.heap.size, 3, none⟩ (.int .i64 (dm - 1))).setCell ⟨w.heap.size, 2, none⟩ (.int .i64 (ar - 1))).setCell ⟨w.heap.size, 5, none⟩ (.int .i64 (wrap64 (ops + 1)))) (w.heap.size + 1) 32 ZZ) := (((b1.far (p := ⟨w.heap.size, 3, none⟩) (by simp) (.int .i64 (dm - 1))).far (p := ⟨w.heap.size, 2, none⟩) (by simp) (.int .i64 (ar - 1))).far (p := ⟨w.heap.size, 5, none⟩) (by simp) (.int .i64 (wrap64 (ops + 1))))
  have HB : Hid (Below w.heap.size w (((W0.setCell ⟨w.heap.size, 3, none⟩ (.int .i64 (dm - 1))).setCell ⟨w.heap.size, 2, none⟩ (.int .i64 (ar - 1))).setCell ⟨w.heap.size, 5, none⟩ (.int .i64 (wrap64 (ops + 1))))) := (((hB.setCell (p := ⟨w.heap.size, 3, none⟩) (Nat.le_refl _) (.int .i64 (dm - 1))).setCell (p := ⟨w.heap.size, 2, none⟩) (Nat.le_refl _) (.int .i64 (ar - 1))).setCell (p := ⟨w.heap.size, 5, none⟩) (Nat.le_refl _) (.int .i64 (wrap64 (ops + 1))))
  clear b0 b1 hB
  have hnn := hn
  have nlt : ¬ i < 0 := by omega
  have nge : ¬ (i ≥ (nh : Int)) := by omega
  go_wp2_with (first
    | ((with_reducible refine at_load (t := 32) ?_); refine wpList_load_mid rfl 32 _ rfl w.heap.size 0 rfl (rrow Ah nh ch Aq nq cq (ar - 1) (dm - 1) false (wrap64 (ops + 1))) _ HX.out.rng Try.underlying32 rfl Try.i32 ?_)
    | ((with_reducible refine at_store (t := 32) ?_); refine wpList_store_blk _ rfl 32 _ _ rfl (w.heap.size + 1) ZZ 32 (rrow Ah nh ch Aq nq cq (ar - 1) (dm - 1) false (wrap64 (ops + 1))) rfl rfl HY.out rfl Try.i32 (rrow_one _ _ _ _ _ _ _ _ _ _) ?_; intro w9 hb9 ho9))
  refine bodyPost_ret (ret_cell_tmp (p := 6) (u := 7) (ty := 32) rfl _ _ (w.heap.size + 1) 32 _ _ rfl hb9 Try.underlying32 rfl Try.i32) rfl ?_
  exact ⟨rfl, HB.out.trans (ho9.below (by omega))⟩


set_option maxRecDepth 100000 in
set_option maxHeartbeats 1000000 in
theorem asked_goesTab (Ah : Option Addr) (nh ch : Nat) (Aq : Option Addr) (nq cq : Nat) (ar dm ops i : Int) (h1 : -1 ≤ dm) (h2 : dm ≤ 9223372036854775807) (h3 : -1 ≤ ar) (h4 : ar ≤ 9223372036854775807) (hi0 : 0 ≤ i) (hi1 : i < (nh : Int)) (hn : nh ≤ 9223372036854775807) (h0 : (ar == 0) = false) (g0 : (dm == 0) = false) (hd1 : 0 ≤ dm) (ha1 : ar ≤ -1) (w : World) :
    Calls Try.prog 59 #[.agg (rrow Ah nh ch Aq nq cq ar dm false ops).toArray, .int .i64 i, .bool true] w fun e w' =>
      e = .returned (.tuple #[.agg (rrow Ah nh ch Aq nq cq (-1) (dm - 1) false (wrap64 (ops + 1))).toArray, .int .i64 0]) ∧ Below w.heap.size w w' := by
  have b0 : Blk ((w.alloc (.cells (rrow Ah nh ch Aq nq cq ar dm false ops).toArray 32)).alloc (.cells ZZ 32)) w.heap.size 32 (rrow Ah nh ch Aq nq cq ar dm false ops).toArray := (Blk.new w 32 _).alloc _
  have b1 : Blk ((w.alloc (.cells (rrow Ah nh ch Aq nq cq ar dm false ops).toArray 32)).alloc (.cells ZZ 32)) (w.heap.size + 1) 32 ZZ := Blk.new' _ 32 _ (by simp)
  have hB : Below w.heap.size w ((w.alloc (.cells (rrow Ah nh ch Aq nq cq ar dm false ops).toArray 32)).alloc (.cells ZZ 32)) := ((Below.refl _ w).alloc (Nat.le_refl _) _).alloc (by simp) _
  have c0 : ((w.alloc (.cells (rrow Ah nh ch Aq nq cq ar dm false ops).toArray 32)).alloc (.cells ZZ 32)).cell? ⟨w.heap.size, 0, none⟩ = some (.slice Ah nh ch) := b0.cell 0
  have c2 : ((w.alloc (.cells (rrow Ah nh ch Aq nq cq ar dm false ops).toArray 32)).alloc (.cells ZZ 32)).cell? ⟨w.heap.size, 2, none⟩ = some (.int .i64 ar) := b0.cell 2
  have c3 : ((w.alloc (.cells (rrow Ah nh ch Aq nq cq ar dm false ops).toArray 32)).alloc (.cells ZZ 32)).cell? ⟨w.heap.size, 3, none⟩ = some (.int .i64 dm) := b0.cell 3
  have c4 : ((w.alloc (.cells (rrow Ah nh ch Aq nq cq ar dm false ops).toArray 32)).alloc (.cells ZZ 32)).cell? ⟨w.heap.size, 4, none⟩ = some (.bool false) := b0.cell 4
  have c5 : ((w.alloc (.cells (rrow Ah nh ch Aq nq cq ar dm false ops).toArray 32)).alloc (.cells ZZ 32)).cell? ⟨w.heap.size, 5, none⟩ = some (.int .i64 ops) := b0.cell 5
  have f2 := b0.frozen 2
  have f3 := b0.frozen 3
  have f4 := b0.frozen 4
  have f5 := b0.frozen 5
  go_enter Try.func59, Try.ntmps59
  go_upto_region 1 with (fail)
  generalize ((w.alloc (.cells (rrow Ah nh ch Aq nq cq ar dm false ops).toArray 32)).alloc (.cells ZZ 32)) = W0 at *
  have HX : Hid (Blk (((W0.setCell ⟨w.heap.size, 3, none⟩ (.int .i64 (dm - 1))).setCell ⟨w.heap.size, 2, none⟩ (.int .i64 (-1))).setCell ⟨w.heap.size, 5, none⟩ (.int .i64 (wrap64 (ops + 1)))) w.heap.size 32 (rrow Ah nh ch Aq nq cq (-1) (dm - 1) false (wrap64 (ops + 1))).toArray) := (((b0.set_ 3 (.int .i64 (dm - 1))).set_ 2 (.int .i64 (-1))).set_ 5 (.int .i64 (wrap64 (ops + 1))))
  have HY : Hid (Blk (((W0.setCell ⟨w.heap.size, 3, none⟩ (.int .i64 (dm - 1))).setCell ⟨w.heap.size, 2, none⟩ (.int .i64 (-1))).setCell ⟨w.heap.size, 5, none⟩ (.int .i64 (wrap64 (ops + 1)))) (w.heap.size + 1) 32 ZZ) := (((b1.far (p := ⟨w.heap.size, 3, none⟩) (by simp) (.int .i64 (dm - 1))).far (p := ⟨w.heap.size, 2, none⟩) (by simp) (.int .i64 (-1))).far (p := ⟨w.heap.size, 5, none⟩) (by simp) (.int .i64 (wrap64 (ops + 1))))
  have HB : Hid (Below w.heap.size w (((W0.setCell ⟨w.heap.size, 3, none⟩ (.int .i64 (dm - 1))).setCell ⟨w.heap.size, 2, none⟩ (.int .i64 (-1))).setCell ⟨w.heap.size, 5, none⟩ (.int .i64 (wrap64 (ops + 1))))) := (((hB.setCell (p := ⟨w.heap.size, 3, none⟩) (Nat.le_refl _) (.int .i64 (dm - 1))).setCell (p := ⟨w.heap.size, 2, none⟩) (Nat.le_refl _) (.int .i64 (-1))).setCell (p := ⟨w.heap.size, 5, none⟩) (Nat.le_refl _) (.int .i64 (wrap64 (ops + 1))))
  clear b0 b1 hB
  have hnn := hn
  have nlt : ¬ i < 0 := by omega
  have nge : ¬ (i ≥ (nh : Int)) := by omega
  go_wp2_with (first
    | ((with_reducible refine at_load (t := 32) ?_); refine wpList_load_mid rfl 32 _ rfl w.heap.size 0 rfl (rrow Ah nh ch Aq nq cq (-1) (dm - 1) false (wrap64 (ops + 1))) _ HX.out.rng Try.underlying32 rfl Try.i32 ?_)
    | ((with_reducible refine at_store (t := 32) ?_); refine wpList_store_blk _ rfl 32 _ _ rfl (w.heap.size + 1) ZZ 32 (rrow Ah nh ch Aq nq cq (-1) (dm - 1) false (wrap64 (ops + 1))) rfl rfl HY.out rfl Try.i32 (rrow_one _ _ _ _ _ _ _ _ _ _) ?_; intro w9 hb9 ho9))
  refine bodyPost_ret (ret_cell_tmp (p := 6) (u := 7) (ty := 32) rfl _ _ (w.heap.size + 1) 32 _ _ rfl hb9 Try.underlying32 rfl Try.i32) rfl ?_
  exact ⟨rfl, HB.out.trans (ho9.below (by omega))⟩


set_option maxRecDepth 100000 in
set_option maxHeartbeats 1000000 in
theorem asked_armedb (Ah : Option Addr) (nh ch : Nat) (Aq : Option Addr) (nq cq : Nat) (ar dm ops i : Int) (h1 : -1 ≤ dm) (h2 : dm ≤ 9223372036854775807) (h3 : -1 ≤ ar) (h4 : ar ≤ 9223372036854775807) (hi0 : 0 ≤ i) (hi1 : i < (nh : Int)) (hn : nh ≤ 9223372036854775807) (h0 : (ar == 0) = true) (hd1 : dm ≤ -1) (w : World) :
    Calls Try.prog 59 #[.agg (rrow Ah nh ch Aq nq cq ar dm false ops).toArray, .int .i64 i, .bool true] w fun e w' =>
      e = .returned (.tuple #[.agg (rrow Ah nh ch Aq nq cq (ar) (-1) true (ops)).toArray, .int .i64 9]) ∧ Below w.heap.size w w' := by
  have b0 : Blk ((w.alloc (.cells (rrow Ah nh ch Aq nq cq ar dm false ops).toArray 32)).alloc (.cells ZZ 32)) w.heap.size 32 (rrow Ah nh ch Aq nq cq ar dm false ops).toArray := (Blk.new w 32 _).alloc _
  have b1 : Blk ((w.alloc (.cells (rrow Ah nh ch Aq nq cq ar dm false ops).toArray 32)).alloc (.cells ZZ 32)) (w.heap.size + 1) 32 ZZ := Blk.new' _ 32 _ (by simp)
  have hB : Below w.heap.size w ((w.alloc (.cells (rrow Ah nh ch Aq nq cq ar dm false ops).toArray 32)).alloc (.cells ZZ 32)) := ((Below.refl _ w).alloc (Nat.le_refl _) _).alloc (by simp) _
  have c0 : ((w.alloc (.cells (rrow Ah nh ch Aq nq cq ar dm false ops).toArray 32)).alloc (.cells ZZ 32)).cell? ⟨w.heap.size, 0, none⟩ = some (.slice Ah nh ch) := b0.cell 0
  have c2 : ((w.alloc (.cells (rrow Ah nh ch Aq nq cq ar dm false ops).toArray 32)).alloc (.cells ZZ 32)).cell? ⟨w.heap.size, 2, none⟩ = some (.int .i64 ar) := b0.cell 2
  have c3 : ((w.alloc (.cells (rrow Ah nh ch Aq nq cq ar dm false ops).toArray 32)).alloc (.cells ZZ 32)).cell? ⟨w.heap.size, 3, none⟩ = some (.int .i64 dm) := b0.cell 3
  have c4 : ((w.alloc (.cells (rrow Ah nh ch Aq nq cq ar dm false ops).toArray 32)).alloc (.cells ZZ 32)).cell? ⟨w.heap.size, 4, none⟩ = some (.bool false) := b0.cell 4
  have c5 : ((w.alloc (.cells (rrow Ah nh ch Aq nq cq ar dm false ops).toArray 32)).alloc (.cells ZZ 32)).cell? ⟨w.heap.size, 5, none⟩ = some (.int .i64 ops) := b0.cell 5
  have f2 := b0.frozen 2
  have f3 := b0.frozen 3
  have f4 := b0.frozen 4
  have f5 := b0.frozen 5
  go_enter Try.func59, Try.ntmps59
  go_upto_region 1 with (fail)
  generalize ((w.alloc (.cells (rrow Ah nh ch Aq nq cq ar dm false ops).toArray 32)).alloc (.cells ZZ 32)) = W0 at *
  have HX : Hid (Blk ((W0.setCell ⟨w.heap.size, 3, none⟩ (.int .i64 (-1))).setCell ⟨w.heap.size, 4, none⟩ (.bool true)) w.heap.size 32 (rrow Ah nh ch Aq nq cq (ar) (-1) true (ops)).toArray) := ((b0.set_ 3 (.int .i64 (-1))).set_ 4 (.bool true))
  have HY : Hid (Blk ((W0.setCell ⟨w.heap.size, 3, none⟩ (.int .i64 (-1))).setCell ⟨w.heap.size, 4, none⟩ (.bool true)) (w.heap.size + 1) 32 ZZ) := ((b1.far (p := ⟨w.heap.size, 3, none⟩) (by simp) (.int .i64 (-1))).far (p := ⟨w.heap.size, 4, none⟩) (by simp) (.bool true))
  have HB : Hid (Below w.heap.size w ((W0.setCell ⟨w.heap.size, 3, none⟩ (.int .i64 (-1))).setCell ⟨w.heap.size, 4, none⟩ (.bool true))) := ((hB.setCell (p := ⟨w.heap.size, 3, none⟩) (Nat.le_refl _) (.int .i64 (-1))).setCell (p := ⟨w.heap.size, 4, none⟩) (Nat.le_refl _) (.bool true))
  clear b0 b1 hB
  have hnn := hn
  have nlt : ¬ i < 0 := by omega
  have nge : ¬ (i ≥ (nh : Int)) := by omega
  go_wp2_with (first
    | ((with_reducible refine at_load (t := 32) ?_); refine wpList_load_mid rfl 32 _ rfl w.heap.size 0 rfl (rrow Ah nh ch Aq nq cq (ar) (-1) true (ops)) _ HX.out.rng Try.underlying32 rfl Try.i32 ?_)
    | ((with_reducible refine at_store (t := 32) ?_); refine wpList_store_blk _ rfl 32 _ _ rfl (w.heap.size + 1) ZZ 32 (rrow Ah nh ch Aq nq cq (ar) (-1) true (ops)) rfl rfl HY.out rfl Try.i32 (rrow_one _ _ _ _ _ _ _ _ _ _) ?_; intro w9 hb9 ho9))
  refine bodyPost_ret (ret_cell_tmp (p := 6) (u := 7) (ty := 32) rfl _ _ (w.heap.size + 1) 32 _ _ rfl hb9 Try.underlying32 rfl Try.i32) rfl ?_
  exact ⟨rfl, HB.out.trans (ho9.below (by omega))⟩


set_option maxRecDepth 100000 in
set_option maxHeartbeats 1000000 in
theorem asked_goesFb (Ah : Option Addr) (nh ch : Nat) (Aq : Option Addr) (nq cq : Nat) (ar dm ops i : Int) (h1 : -1 ≤ dm) (h2 : dm ≤ 9223372036854775807) (h3 : -1 ≤ ar) (h4 : ar ≤ 9223372036854775807) (hi0 : 0 ≤ i) (hi1 : i < (nh : Int)) (hn : nh ≤ 9223372036854775807) (g0 : (dm == 0) = false) (hd1 : dm ≤ -1) (w : World) :
    Calls Try.prog 59 #[.agg (rrow Ah nh ch Aq nq cq ar dm false ops).toArray, .int .i64 i, .bool false] w fun e w' =>
      e = .returned (.tuple #[.agg (rrow Ah nh ch Aq nq cq (ar) (-1) false (wrap64 (ops + 1))).toArray, .int .i64 0]) ∧ Below w.heap.size w w' := by
  have b0 : Blk ((w.alloc (.cells (rrow Ah nh ch Aq nq cq ar dm false ops).toArray 32)).alloc (.cells ZZ 32)) w.heap.size 32 (rrow Ah nh ch Aq nq cq ar dm false ops).toArray := (Blk.new w 32 _).alloc _
  have b1 : Blk ((w.alloc (.cells (rrow Ah nh ch Aq nq cq ar dm false ops).toArray 32)).alloc (.cells ZZ 32)) (w.heap.size + 1) 32 ZZ := Blk.new' _ 32 _ (by simp)
  have hB : Below w.heap.size w ((w.alloc (.cells (rrow Ah nh ch Aq nq cq ar dm false ops).toArray 32)).alloc (.cells ZZ 32)) := ((Below.refl _ w).alloc (Nat.le_refl _) _).alloc (by simp) _
  have c0 : ((w.alloc (.cells (rrow Ah nh ch Aq nq cq ar dm false ops).toArray 32)).alloc (.cells ZZ 32)).cell? ⟨w.heap.size, 0, none⟩ = some (.slice Ah nh ch) := b0.cell 0
  have c2 : ((w.alloc (.cells (rrow Ah nh ch Aq nq cq ar dm false ops).toArray 32)).alloc (.cells ZZ 32)).cell? ⟨w.heap.size, 2, none⟩ = some (.int .i64 ar) := b0.cell 2
  have c3 : ((w.alloc (.cells (rrow Ah nh ch Aq nq cq ar dm false ops).toArray 32)).alloc (.cells ZZ 32)).cell? ⟨w.heap.size, 3, none⟩ = some (.int .i64 dm) := b0.cell 3
  have c4 : ((w.alloc (.cells (rrow Ah nh ch Aq nq cq ar dm false ops).toArray 32)).alloc (.cells ZZ 32)).cell? ⟨w.heap.size, 4, none⟩ = some (.bool false) := b0.cell 4
  have c5 : ((w.alloc (.cells (rrow Ah nh ch Aq nq cq ar dm false ops).toArray 32)).alloc (.cells ZZ 32)).cell? ⟨w.heap.size, 5, none⟩ = some (.int .i64 ops) := b0.cell 5
  have f2 := b0.frozen 2
  have f3 := b0.frozen 3
  have f4 := b0.frozen 4
  have f5 := b0.frozen 5
  go_enter Try.func59, Try.ntmps59
  go_upto_region 1 with (fail)
  generalize ((w.alloc (.cells (rrow Ah nh ch Aq nq cq ar dm false ops).toArray 32)).alloc (.cells ZZ 32)) = W0 at *
  have HX : Hid (Blk ((W0.setCell ⟨w.heap.size, 3, none⟩ (.int .i64 (-1))).setCell ⟨w.heap.size, 5, none⟩ (.int .i64 (wrap64 (ops + 1)))) w.heap.size 32 (rrow Ah nh ch Aq nq cq (ar) (-1) false (wrap64 (ops + 1))).toArray) := ((b0.set_ 3 (.int .i64 (-1))).set_ 5 (.int .i64 (wrap64 (ops + 1))))
  have HY : Hid (Blk ((W0.setCell ⟨w.heap.size, 3, none⟩ (.int .i64 (-1))).setCell ⟨w.heap.size, 5, none⟩ (.int .i64 (wrap64 (ops + 1)))) (w.heap.size + 1) 32 ZZ) := ((b1.far (p := ⟨w.heap.size, 3, none⟩) (by simp) (.int .i64 (-1))).far (p := ⟨w.heap.size, 5, none⟩) (by simp) (.int .i64 (wrap64 (ops + 1))))
  have HB : Hid (Below w.heap.size w ((W0.setCell ⟨w.heap.size, 3, none⟩ (.int .i64 (-1))).setCell ⟨w.heap.size, 5, none⟩ (.int .i64 (wrap64 (ops + 1))))) := ((hB.setCell (p := ⟨w.heap.size, 3, none⟩) (Nat.le_refl _) (.int .i64 (-1))).setCell (p := ⟨w.heap.size, 5, none⟩) (Nat.le_refl _) (.int .i64 (wrap64 (ops + 1))))
  clear b0 b1 hB
  have hnn := hn
  have nlt : ¬ i < 0 := by omega
  have nge : ¬ (i ≥ (nh : Int)) := by omega
  go_wp2_with (first
    | ((with_reducible refine at_load (t := 32) ?_); refine wpList_load_mid rfl 32 _ rfl w.heap.size 0 rfl (rrow Ah nh ch Aq nq cq (ar) (-1) false (wrap64 (ops + 1))) _ HX.out.rng Try.underlying32 rfl Try.i32 ?_)
    | ((with_reducible refine at_store (t := 32) ?_); refine wpList_store_blk _ rfl 32 _ _ rfl (w.heap.size + 1) ZZ 32 (rrow Ah nh ch Aq nq cq (ar) (-1) false (wrap64 (ops + 1))) rfl rfl HY.out rfl Try.i32 (rrow_one _ _ _ _ _ _ _ _ _ _) ?_; intro w9 hb9 ho9))
  refine bodyPost_ret (ret_cell_tmp (p := 6) (u := 7) (ty := 32) rfl _ _ (w.heap.size + 1) 32 _ _ rfl hb9 Try.underlying32 rfl Try.i32) rfl ?_
  exact ⟨rfl, HB.out.trans (ho9.below (by omega))⟩


set_option maxRecDepth 100000 in
set_option maxHeartbeats 1000000 in
theorem asked_goesTba (Ah : Option Addr) (nh ch : Nat) (Aq : Option Addr) (nq cq : Nat) (ar dm ops i : Int) (h1 : -1 ≤ dm) (h2 : dm ≤ 9223372036854775807) (h3 : -1 ≤ ar) (h4 : ar ≤ 9223372036854775807) (hi0 : 0 ≤ i) (hi1 : i < (nh : Int)) (hn : nh ≤ 9223372036854775807) (h0 : (ar == 0) = false) (g0 : (dm == 0) = false) (hd1 : dm ≤ -1) (ha1 : 0 ≤ ar) (w : World) :
    Calls Try.prog 59 #[.agg (rrow Ah nh ch Aq nq cq ar dm false ops).toArray, .int .i64 i, .bool true] w fun e w' =>
      e = .returned (.tuple #[.agg (rrow Ah nh ch Aq nq cq (ar - 1) (-1) false (wrap64 (ops + 1))).toArray, .int .i64 0]) ∧ Below w.heap.size w w' := by
  have b0 : Blk ((w.alloc (.cells (rrow Ah nh ch Aq nq cq ar dm false ops).toArray 32)).alloc (.cells ZZ 32)) w.heap.size 32 (rrow Ah nh ch Aq nq cq ar dm false ops).toArray := (Blk.new w 32 _).alloc _
  have b1 : Blk ((w.alloc (.cells (rrow Ah nh ch Aq nq cq ar dm false ops).toArray 32)).alloc (.cells ZZ 32)) (w.heap.size + 1) 32 ZZ := Blk.new' _ 32 _ (by simp)
  have hB : Below w.heap.size w ((w.alloc (.cells (rrow Ah nh ch Aq nq cq ar dm false ops).toArray 32)).alloc (.cells ZZ 32)) := ((Below.refl _ w).alloc (Nat.le_refl _) _).alloc (by simp) _
  have c0 : ((w.alloc (.cells (rrow Ah nh ch Aq nq cq ar dm false ops).toArray 32)).alloc (.cells ZZ 32)).cell? ⟨w.heap.size, 0, none⟩ = some (.slice Ah nh ch) := b0.cell 0
  have c2 : ((w.alloc (.cells (rrow Ah nh ch Aq nq cq ar dm false ops).toArray 32)).alloc (.cells ZZ 32)).cell? ⟨w.heap.size, 2, none⟩ = some (.int .i64 ar) := b0.cell 2
  have c3 : ((w.alloc (.cells (rrow Ah nh ch Aq nq cq ar dm false ops).toArray 32)).alloc (.cells ZZ 32)).cell? ⟨w.heap.size, 3, none⟩ = some (.int .i64 dm) := b0.cell 3
  have c4 : ((w.alloc (.cells (rrow Ah nh ch Aq nq cq ar dm false ops).toArray 32)).alloc (.cells ZZ 32)).cell? ⟨w.heap.size, 4, none⟩ = some (.bool false) := b0.cell 4
  have c5 : ((w.alloc (.cells (rrow Ah nh ch Aq nq cq ar dm false ops).toArray 32)).alloc (.cells ZZ 32)).cell? ⟨w.heap.size, 5, none⟩ = some (.int .i64 ops) := b0.cell 5
  have f2 := b0.frozen 2
  have f3 := b0.frozen 3
  have f4 := b0.frozen 4
  have f5 := b0.frozen 5
  go_enter Try.func59, Try.ntmps59
  go_upto_region 1 with (fail)
  generalize ((w.alloc (.cells (rrow Ah nh ch Aq nq cq ar dm false ops).toArray 32)).alloc (.cells ZZ 32)) = W0 at *
  have HX : Hid (Blk (((W0.setCell ⟨w.heap.size, 3, none⟩ (.int .i64 (-1))).setCell ⟨w.heap.size, 2, none⟩ (.int .i64 (ar - 1))).setCell ⟨w.heap.size, 5, none⟩ (.int .i64 (wrap64 (ops + 1)))) w.heap.size 32 (rrow Ah nh ch Aq nq cq (ar - 1) (-1) false (wrap64 (ops + 1))).toArray) := (((b0.set_ 3 (.int .i64 (-1))).set_ 2 (.int .i64 (ar - 1))).set_ 5 (.int .i64 (wrap64 (ops + 1))))
  have HY : Hid (Blk (((W0.setCell ⟨w.heap.size, 3, none⟩ (.int .i64 (-1))).setCell ⟨w.heap.size, 2, none⟩ (.int .i64 (ar - 1))).setCell ⟨w.heap.size, 5, none⟩ (.int .i64 (wrap64 (ops + 1)))) (w.heap.size + 1) 32 ZZ) := (((b1.far (p := ⟨w.heap.size, 3, none⟩) (by simp) (.int .i64 (-1))).far (p := ⟨w.heap.size, 2, none⟩) (by simp) (.int .i64 (ar - 1))).far (p := ⟨w.heap.size, 5, none⟩) (by simp) (.int .i64 (wrap64 (ops + 1))))
  have HB : Hid (Below w.heap.size w (((W0.setCell ⟨w.heap.size, 3, none⟩ (.int .i64 (-1))).setCell ⟨w.heap.size, 2, none⟩ (.int .i64 (ar - 1))).setCell ⟨w.heap.size, 5, none⟩ (.int .i64 (wrap64 (ops + 1))))) := (((hB.setCell (p := ⟨w.heap.size, 3, none⟩) (Nat.le_refl _) (.int .i64 (-1))).setCell (p := ⟨w.heap.size, 2, none⟩) (Nat.le_refl _) (.int .i64 (ar - 1))).setCell (p := ⟨w.heap.size, 5, none⟩) (Nat.le_refl _) (.int .i64 (wrap64 (ops + 1))))
  clear b0 b1 hB
  have hnn := hn
  have nlt : ¬ i < 0 := by omega
  have nge : ¬ (i ≥ (nh : Int)) := by omega
  go_wp2_with (first
    | ((with_reducible refine at_load (t := 32) ?_); refine wpList_load_mid rfl 32 _ rfl w.heap.size 0 rfl (rrow Ah nh ch Aq nq cq (ar - 1) (-1) false (wrap64 (ops + 1))) _ HX.out.rng Try.underlying32 rfl Try.i32 ?_)
    | ((with_reducible refine at_store (t := 32) ?_); refine wpList_store_blk _ rfl 32 _ _ rfl (w.heap.size + 1) ZZ 32 (rrow Ah nh ch Aq nq cq (ar - 1) (-1) false (wrap64 (ops + 1))) rfl rfl HY.out rfl Try.i32 (rrow_one _ _ _ _ _ _ _ _ _ _) ?_; intro w9 hb9 ho9))
  refine bodyPost_ret (ret_cell_tmp (p := 6) (u := 7) (ty := 32) rfl _ _ (w.heap.size + 1) 32 _ _ rfl hb9 Try.underlying32 rfl Try.i32) rfl ?_
  exact ⟨rfl, HB.out.trans (ho9.below (by omega))⟩


set_option maxRecDepth 100000 in
set_option maxHeartbeats 1000000 in
theorem asked_goesTbb (Ah : Option Addr) (nh ch : Nat) (Aq : Option Addr) (nq cq : Nat) (ar dm ops i : Int) (h1 : -1 ≤ dm) (h2 : dm ≤ 9223372036854775807) (h3 : -1 ≤ ar) (h4 : ar ≤ 9223372036854775807) (hi0 : 0 ≤ i) (hi1 : i < (nh : Int)) (hn : nh ≤ 9223372036854775807) (h0 : (ar == 0) = false) (g0 : (dm == 0) = false) (hd1 : dm ≤ -1) (ha1 : ar ≤ -1) (w : World) :
    Calls Try.prog 59 #[.agg (rrow Ah nh ch Aq nq cq ar dm false ops).toArray, .int .i64 i, .bool true] w fun e w' =>
      e = .returned (.tuple #[.agg (rrow Ah nh ch Aq nq cq (-1) (-1) false (wrap64 (ops + 1))).toArray, .int .i64 0]) ∧ Below w.heap.size w w' := by
  have b0 : Blk ((w.alloc (.cells (rrow Ah nh ch Aq nq cq ar dm false ops).toArray 32)).alloc (.cells ZZ 32)) w.heap.size 32 (rrow Ah nh ch Aq nq cq ar dm false ops).toArray := (Blk.new w 32 _).alloc _
  have b1 : Blk ((w.alloc (.cells (rrow Ah nh ch Aq nq cq ar dm false ops).toArray 32)).alloc (.cells ZZ 32)) (w.heap.size + 1) 32 ZZ := Blk.new' _ 32 _ (by simp)
  have hB : Below w.heap.size w ((w.alloc (.cells (rrow Ah nh ch Aq nq cq ar dm false ops).toArray 32)).alloc (.cells ZZ 32)) := ((Below.refl _ w).alloc (Nat.le_refl _) _).alloc (by simp) _
  have c0 : ((w.alloc (.cells (rrow Ah nh ch Aq nq cq ar dm false ops).toArray 32)).alloc (.cells ZZ 32)).cell? ⟨w.heap.size, 0, none⟩ = some (.slice Ah nh ch) := b0.cell 0
  have c2 : ((w.alloc (.cells (rrow Ah nh ch Aq nq cq ar dm false ops).toArray 32)).alloc (.cells ZZ 32)).cell? ⟨w.heap.size, 2, none⟩ = some (.int .i64 ar) := b0.cell 2
  have c3 : ((w.alloc (.cells (rrow Ah nh ch Aq nq cq ar dm false ops).toArray 32)).alloc (.cells ZZ 32)).cell? ⟨w.heap.size, 3, none⟩ = some (.int .i64 dm) := b0.cell 3
  have c4 : ((w.alloc (.cells (rrow Ah nh ch Aq nq cq ar dm false ops).toArray 32)).alloc (.cells ZZ 32)).cell? ⟨w.heap.size, 4, none⟩ = some (.bool false) := b0.cell 4
  have c5 : ((w.alloc (.cells (rrow Ah nh ch Aq nq cq ar dm false ops).toArray 32)).alloc (.cells ZZ 32)).cell? ⟨w.heap.size, 5, none⟩ = some (.int .i64 ops) := b0.cell 5
  have f2 := b0.frozen 2
  have f3 := b0.frozen 3
  have f4 := b0.frozen 4
  have f5 := b0.frozen 5
  go_enter Try.func59, Try.ntmps59
  go_upto_region 1 with (fail)
  generalize ((w.alloc (.cells (rrow Ah nh ch Aq nq cq ar dm false ops).toArray 32)).alloc (.cells ZZ 32)) = W0 at *
  have HX : Hid (Blk (((W0.setCell ⟨w.heap.size, 3, none⟩ (.int .i64 (-1))).setCell ⟨w.heap.size, 2, none⟩ (.int .i64 (-1))).setCell ⟨w.heap.size, 5, none⟩ (.int .i64 (wrap64 (ops + 1)))) w.heap.size 32 (rrow Ah nh ch Aq nq cq (-1) (-1) false (wrap64 (ops + 1))).toArray) := (((b0.set_ 3 (.int .i64 (-1))).set_ 2 (.int .i64 (-1))).set_ 5 (.int .i64 (wrap64 (ops + 1))))
  have HY : Hid (Blk (((W0.setCell ⟨w.heap.size, 3, none⟩ (.int .i64 (-1))).setCell ⟨w.heap.size, 2, none⟩ (.int .i64 (-1))).setCell ⟨w.heap.size, 5, none⟩ (.int .i64 (wrap64 (ops + 1)))) (w.heap.size + 1) 32 ZZ) := (((b1.far (p := ⟨w.heap.size, 3, none⟩) (by simp) (.int .i64 (-1))).far (p := ⟨w.heap.size, 2, none⟩) (by simp) (.int .i64 (-1))).far (p := ⟨w.heap.size, 5, none⟩) (by simp) (.int .i64 (wrap64 (ops + 1))))
  have HB : Hid (Below w.heap.size w (((W0.setCell ⟨w.heap.size, 3, none⟩ (.int .i64 (-1))).setCell ⟨w.heap.size, 2, none⟩ (.int .i64 (-1))).setCell ⟨w.heap.size, 5, none⟩ (.int .i64 (wrap64 (ops + 1))))) := (((hB.setCell (p := ⟨w.heap.size, 3, none⟩) (Nat.le_refl _) (.int .i64 (-1))).setCell (p := ⟨w.heap.size, 2, none⟩) (Nat.le_refl _) (.int .i64 (-1))).setCell (p := ⟨w.heap.size, 5, none⟩) (Nat.le_refl _) (.int .i64 (wrap64 (ops + 1))))
  clear b0 b1 hB
  have hnn := hn
  have nlt : ¬ i < 0 := by omega
  have nge : ¬ (i ≥ (nh : Int)) := by omega
  go_wp2_with (first
    | ((with_reducible refine at_load (t := 32) ?_); refine wpList_load_mid rfl 32 _ rfl w.heap.size 0 rfl (rrow Ah nh ch Aq nq cq (-1) (-1) false (wrap64 (ops + 1))) _ HX.out.rng Try.underlying32 rfl Try.i32 ?_)
    | ((with_reducible refine at_store (t := 32) ?_); refine wpList_store_blk _ rfl 32 _ _ rfl (w.heap.size + 1) ZZ 32 (rrow Ah nh ch Aq nq cq (-1) (-1) false (wrap64 (ops + 1))) rfl rfl HY.out rfl Try.i32 (rrow_one _ _ _ _ _ _ _ _ _ _) ?_; intro w9 hb9 ho9))
  refine bodyPost_ret (ret_cell_tmp (p := 6) (u := 7) (ty := 32) rfl _ _ (w.heap.size + 1) 32 _ _ rfl hb9 Try.underlying32 rfl Try.i32) rfl ?_
  exact ⟨rfl, HB.out.trans (ho9.below (by omega))⟩


set_option maxRecDepth 100000 in
set_option maxHeartbeats 1000000 in
theorem asked_doomedT (Ah : Option Addr) (nh ch : Nat) (Aq : Option Addr) (nq cq : Nat) (ar dm ops i : Int) (h1 : -1 ≤ dm) (h2 : dm ≤ 9223372036854775807) (h3 : -1 ≤ ar) (h4 : ar ≤ 9223372036854775807) (hi0 : 0 ≤ i) (hi1 : i < (nh : Int)) (hn : nh ≤ 9223372036854775807) (h0 : (ar == 0) = false) (g0 : (dm == 0) = true) (hd1 : 0 ≤ dm) (w : World) :
    Calls Try.prog 59 #[.agg (rrow Ah nh ch Aq nq cq ar dm false ops).toArray, .int .i64 i, .bool true] w fun e w' =>
      e = .returned (.tuple #[.agg (rrow Ah nh ch Aq nq cq (ar) (dm - 1) false (ops)).toArray, .int .i64 8]) ∧ Below w.heap.size w w' := by
  have b0 : Blk ((w.alloc (.cells (rrow Ah nh ch Aq nq cq ar dm false ops).toArray 32)).alloc (.cells ZZ 32)) w.heap.size 32 (rrow Ah nh ch Aq nq cq ar dm false ops).toArray := (Blk.new w 32 _).alloc _
  have b1 : Blk ((w.alloc (.cells (rrow Ah nh ch Aq nq cq ar dm false ops).toArray 32)).alloc (.cells ZZ 32)) (w.heap.size + 1) 32 ZZ := Blk.new' _ 32 _ (by simp)
  have hB : Below w.heap.size w ((w.alloc (.cells (rrow Ah nh ch Aq nq cq ar dm false ops).toArray 32)).alloc (.cells ZZ 32)) := ((Below.refl _ w).alloc (Nat.le_refl _) _).alloc (by simp) _
  have c0 : ((w.alloc (.cells (rrow Ah nh ch Aq nq cq ar dm false ops).toArray 32)).alloc (.cells ZZ 32)).cell? ⟨w.heap.size, 0, none⟩ = some (.slice Ah nh ch) := b0.cell 0
  have c2 : ((w.alloc (.cells (rrow Ah nh ch Aq nq cq ar dm false ops).toArray 32)).alloc (.cells ZZ 32)).cell? ⟨w.heap.size, 2, none⟩ = some (.int .i64 ar) := b0.cell 2
  have c3 : ((w.alloc (.cells (rrow Ah nh ch Aq nq cq ar dm false ops).toArray 32)).alloc (.cells ZZ 32)).cell? ⟨w.heap.size, 3, none⟩ = some (.int .i64 dm) := b0.cell 3
  have c4 : ((w.alloc (.cells (rrow Ah nh ch Aq nq cq ar dm false ops).toArray 32)).alloc (.cells ZZ 32)).cell? ⟨w.heap.size, 4, none⟩ = some (.bool false) := b0.cell 4
  have c5 : ((w.alloc (.cells (rrow Ah nh ch Aq nq cq ar dm false ops).toArray 32)).alloc (.cells ZZ 32)).cell? ⟨w.heap.size, 5, none⟩ = some (.int .i64 ops) := b0.cell 5
  have f2 := b0.frozen 2
  have f3 := b0.frozen 3
  have f4 := b0.frozen 4
  have f5 := b0.frozen 5
  go_enter Try.func59, Try.ntmps59
  go_upto_region 1 with (fail)
  generalize ((w.alloc (.cells (rrow Ah nh ch Aq nq cq ar dm false ops).toArray 32)).alloc (.cells ZZ 32)) = W0 at *
  have HX : Hid (Blk (W0.setCell ⟨w.heap.size, 3, none⟩ (.int .i64 (dm - 1))) w.heap.size 32 (rrow Ah nh ch Aq nq cq (ar) (dm - 1) false (ops)).toArray) := (b0.set_ 3 (.int .i64 (dm - 1)))
  have HY : Hid (Blk (W0.setCell ⟨w.heap.size, 3, none⟩ (.int .i64 (dm - 1))) (w.heap.size + 1) 32 ZZ) := (b1.far (p := ⟨w.heap.size, 3, none⟩) (by simp) (.int .i64 (dm - 1)))
  have HB : Hid (Below w.heap.size w (W0.setCell ⟨w.heap.size, 3, none⟩ (.int .i64 (dm - 1)))) := (hB.setCell (p := ⟨w.heap.size, 3, none⟩) (Nat.le_refl _) (.int .i64 (dm - 1)))
  clear b0 b1 hB
  have hnn := hn
  have nlt : ¬ i < 0 := by omega
  have nge : ¬ (i ≥ (nh : Int)) := by omega
  go_wp2_with (first
    | ((with_reducible refine at_load (t := 32) ?_); refine wpList_load_mid rfl 32 _ rfl w.heap.size 0 rfl (rrow Ah nh ch Aq nq cq (ar) (dm - 1) false (ops)) _ HX.out.rng Try.underlying32 rfl Try.i32 ?_)
    | ((with_reducible refine at_store (t := 32) ?_); refine wpList_store_blk _ rfl 32 _ _ rfl (w.heap.size + 1) ZZ 32 (rrow Ah nh ch Aq nq cq (ar) (dm - 1) false (ops)) rfl rfl HY.out rfl Try.i32 (rrow_one _ _ _ _ _ _ _ _ _ _) ?_; intro w9 hb9 ho9))
  refine bodyPost_ret (ret_cell_tmp (p := 6) (u := 7) (ty := 32) rfl _ _ (w.heap.size + 1) 32 _ _ rfl hb9 Try.underlying32 rfl Try.i32) rfl ?_
  exact ⟨rfl, HB.out.trans (ho9.below (by omega))⟩


set_option maxRecDepth 100000 in
set_option maxHeartbeats 1000000 in
theorem asked_doomedF (Ah : Option Addr) (nh ch : Nat) (Aq : Option Addr) (nq cq : Nat) (ar dm ops i : Int) (h1 : -1 ≤ dm) (h2 : dm ≤ 9223372036854775807) (h3 : -1 ≤ ar) (h4 : ar ≤ 9223372036854775807) (hi0 : 0 ≤ i) (hi1 : i < (nh : Int)) (hn : nh ≤ 9223372036854775807) (g0 : (dm == 0) = true) (hd1 : 0 ≤ dm) (w : World) :
    Calls Try.prog 59 #[.agg (rrow Ah nh ch Aq nq cq ar dm false ops).toArray, .int .i64 i, .bool false] w fun e w' =>
      e = .returned (.tuple #[.agg (rrow Ah nh ch Aq nq cq (ar) (dm - 1) false (ops)).toArray, .int .i64 8]) ∧ Below w.heap.size w w' := by
  have b0 : Blk ((w.alloc (.cells (rrow Ah nh ch Aq nq cq ar dm false ops).toArray 32)).alloc (.cells ZZ 32)) w.heap.size 32 (rrow Ah nh ch Aq nq cq ar dm false ops).toArray := (Blk.new w 32 _).alloc _
  have b1 : Blk ((w.alloc (.cells (rrow Ah nh ch Aq nq cq ar dm false ops).toArray 32)).alloc (.cells ZZ 32)) (w.heap.size + 1) 32 ZZ := Blk.new' _ 32 _ (by simp)
  have hB : Below w.heap.size w ((w.alloc (.cells (rrow Ah nh ch Aq nq cq ar dm false ops).toArray 32)).alloc (.cells ZZ 32)) := ((Below.refl _ w).alloc (Nat.le_refl _) _).alloc (by simp) _
  have c0 : ((w.alloc (.cells (rrow Ah nh ch Aq nq cq ar dm false ops).toArray 32)).alloc (.cells ZZ 32)).cell? ⟨w.heap.size, 0, none⟩ = some (.slice Ah nh ch) := b0.cell 0
  have c2 : ((w.alloc (.cells (rrow Ah nh ch Aq nq cq ar dm false ops).toArray 32)).alloc (.cells ZZ 32)).cell? ⟨w.heap.size, 2, none⟩ = some (.int .i64 ar) := b0.cell 2
  have c3 : ((w.alloc (.cells (rrow Ah nh ch Aq nq cq ar dm false ops).toArray 32)).alloc (.cells ZZ 32)).cell? ⟨w.heap.size, 3, none⟩ = some (.int .i64 dm) := b0.cell 3
  have c4 : ((w.alloc (.cells (rrow Ah nh ch Aq nq cq ar dm false ops).toArray 32)).alloc (.cells ZZ 32)).cell? ⟨w.heap.size, 4, none⟩ = some (.bool false) := b0.cell 4
  have c5 : ((w.alloc (.cells (rrow Ah nh ch Aq nq cq ar dm false ops).toArray 32)).alloc (.cells ZZ 32)).cell? ⟨w.heap.size, 5, none⟩ = some (.int .i64 ops) := b0.cell 5
  have f2 := b0.frozen 2
  have f3 := b0.frozen 3
  have f4 := b0.frozen 4
  have f5 := b0.frozen 5
  go_enter Try.func59, Try.ntmps59
  go_upto_region 1 with (fail)
  generalize ((w.alloc (.cells (rrow Ah nh ch Aq nq cq ar dm false ops).toArray 32)).alloc (.cells ZZ 32)) = W0 at *
  have HX : Hid (Blk (W0.setCell ⟨w.heap.size, 3, none⟩ (.int .i64 (dm - 1))) w.heap.size 32 (rrow Ah nh ch Aq nq cq (ar) (dm - 1) false (ops)).toArray) := (b0.set_ 3 (.int .i64 (dm - 1)))
  have HY : Hid (Blk (W0.setCell ⟨w.heap.size, 3, none⟩ (.int .i64 (dm - 1))) (w.heap.size + 1) 32 ZZ) := (b1.far (p := ⟨w.heap.size, 3, none⟩) (by simp) (.int .i64 (dm - 1)))
  have HB : Hid (Below w.heap.size w (W0.setCell ⟨w.heap.size, 3, none⟩ (.int .i64 (dm - 1)))) := (hB.setCell (p := ⟨w.heap.size, 3, none⟩) (Nat.le_refl _) (.int .i64 (dm - 1)))
  clear b0 b1 hB
  have hnn := hn
  have nlt : ¬ i < 0 := by omega
  have nge : ¬ (i ≥ (nh : Int)) := by omega
  go_wp2_with (first
    | ((with_reducible refine at_load (t := 32) ?_); refine wpList_load_mid rfl 32 _ rfl w.heap.size 0 rfl (rrow Ah nh ch Aq nq cq (ar) (dm - 1) false (ops)) _ HX.out.rng Try.underlying32 rfl Try.i32 ?_)
    | ((with_reducible refine at_store (t := 32) ?_); refine wpList_store_blk _ rfl 32 _ _ rfl (w.heap.size + 1) ZZ 32 (rrow Ah nh ch Aq nq cq (ar) (dm - 1) false (ops)) rfl rfl HY.out rfl Try.i32 (rrow_one _ _ _ _ _ _ _ _ _ _) ?_; intro w9 hb9 ho9))
  refine bodyPost_ret (ret_cell_tmp (p := 6) (u := 7) (ty := 32) rfl _ _ (w.heap.size + 1) 32 _ _ rfl hb9 Try.underlying32 rfl Try.i32) rfl ?_
  exact ⟨rfl, HB.out.trans (ho9.below (by omega))⟩


end Go.Proofs.Ytdhompiapklnaaa
