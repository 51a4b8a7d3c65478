/-
  The law's said, arm and fail.
-/
import Derived.Test.YtdhompiapklnaaaEE
namespace Go.Proofs.Ytdhompiapklnaaa
open Go.RowKit
attribute [local go_sem ↓] Try.z39 Try.z86 Try.z75 Try.z32

set_option linter.unusedSimpArgs false in
set_option linter.unusedVariables false in
set_option maxRecDepth 100000 in
set_option maxHeartbeats 2000000 in
theorem said0_dead (at_ n : Int) (A : Option Addr) (nk c : Nat) (Ah : Option Addr) (ch : Nat) (Aq : Option Addr) (cq : Nat) (S : DSt) (dm : Int) (w : World) (hnn : n ≤ 9223372036854775807) (hdd : S.dead = true) (hd : S.dead = false → dm = S.doomed)
    (oh : Own w 0 39 64 (.slice Ah S.has.length ch) S.has) (oq : Own w 0 75 65 (.slice Aq S.q.length cq) (S.q.map put1)) (F : Nat → Prop) (hF : ∀ g, w.heap.size ≤ g → F g) (hA : ∀ g, Ah = some ⟨g, 0, none⟩ → F g) :
    Calls Try.prog 15 #[.agg (askv 0 at_ n A nk c), .agg (rrow Ah S.has.length ch Aq S.q.length cq S.armed dm S.dead S.ops).toArray] w (RSaid F w (armSt S n) Z0 (setErr S)) := by
  have HF := Lib.hid hF
  have HA := Lib.hid hA
  clear hF hA
  rw [hdd]
  have X0 := Lib.hid (SDW.start w #[.int .i64 0, .int .i64 at_, .int .i64 n, .slice A nk c] (rrow Ah S.has.length ch Aq S.q.length cq S.armed dm true S.ops))
  have RR : Hid (∀ W, Below w.heap.size w W → RRow F W (armSt S n) (rrow Ah S.has.length ch Aq S.q.length cq S.armed dm true S.ops)) := fun W hb => by
    have e : armSt S n = S := by simp [armSt, hdd]
    rw [e]
    exact ⟨Ah, ch, Aq, cq, dm, hd, by rw [hdd], oh.below hb, oq.below hb, HA.out⟩
  have ER : Hid (setErr S = 9) := show _ = _ by simp [setErr, hdd]
  have HBZ := buildZ39
  clear oh oq hd
  unfold askv
  go_enter Try.func15, Try.ntmps15
  go_upto_region 1 with (fail)
  generalize (((w.alloc (.cells #[.int .i64 0, .int .i64 at_, .int .i64 n, .slice A nk c] 37)).alloc (.cells (rrow Ah S.has.length ch Aq S.q.length cq S.armed dm true S.ops).toArray 32)).alloc (.cells ZZ 32)).alloc (.cells Z0.toArray 39) = W0 at *
  have k0 : W0.cell? ⟨w.heap.size, 0, none⟩ = some (.int .i64 0) := X0.out.b2.cell 0
  have k2 : W0.cell? ⟨w.heap.size, 2, none⟩ = some (.int .i64 n) := X0.out.b2.cell 2
  have d4 : W0.cell? ⟨w.heap.size + 1, 4, none⟩ = some (.bool true) := X0.out.b3.cell 4
  have X6 := Lib.hid X0.out
  clear X0
  clear hdd
  go_wp2_with (first
    | ((with_reducible refine at_load (t := 32) ?_); refine wpList_load_mid rfl 32 _ rfl (w.heap.size + 1) 0 rfl (rrow Ah S.has.length ch Aq S.q.length cq S.armed dm true S.ops) _ X6.out.b3.rng Try.underlying32 rfl Try.i32 ?_)
    | ((with_reducible refine at_store (t := 32) ?_); refine wpList_store_blk _ rfl 32 _ _ rfl (w.heap.size + 1 + 1) ZZ 32 (rrow Ah S.has.length ch Aq S.q.length cq S.armed dm true S.ops) rfl rfl X6.out.b4 rfl Try.i32 (rrow_one _ _ _ _ _ _ _ _ _ _) ?_; intro w7 hb7 ho7; have X7 := Lib.hid (X6.out.put4 ho7 hb7); clear hb7 ho7)
    | ((with_reducible refine at_store (t := 39) ?_); refine wpList_store_blk _ rfl 39 _ _ rfl (w.heap.size + 1 + 1 + 1) Z0.toArray 39 Z0 rfl rfl X7.out.b5 rfl Try.i39 Z0.ok.one ?_; intro w8 hb8 ho8; have X8 := Lib.hid (X7.out.put5 ho8 hb8); clear hb8 ho8))
  refine bodyPost_ret (ret_cell2_tmp (p := 4) (q := 5) (u := 6) (ty := 32) (ty2 := 39) rfl _ _ (w.heap.size + 1 + 1) (w.heap.size + 1 + 1 + 1) 32 39 _ _ _ _ rfl X8.out.b4 Try.underlying32 rfl Try.i32 rfl X8.out.b5 Try.underlying39 rfl Try.i39) rfl ?_
  exact ⟨_, congrArg (fun z => Ending.returned (.tuple #[.agg (rrow Ah S.has.length ch Aq S.q.length cq S.armed dm true S.ops).toArray, .agg Z0.toArray, .int .i64 z])) ER.out.symm, RR.out _ X8.out.below, X8.out.below⟩

set_option linter.unusedSimpArgs false in
set_option linter.unusedVariables false in
set_option maxRecDepth 100000 in
set_option maxHeartbeats 2000000 in
theorem said0_ge (at_ n : Int) (A : Option Addr) (nk c : Nat) (Ah : Option Addr) (ch : Nat) (Aq : Option Addr) (cq : Nat) (S : DSt) (dm : Int) (w : World) (hnn : n ≤ 9223372036854775807) (hdd : S.dead = false) (hn0 : -1 ≤ n) (hd : S.dead = false → dm = S.doomed)
    (oh : Own w 0 39 64 (.slice Ah S.has.length ch) S.has) (oq : Own w 0 75 65 (.slice Aq S.q.length cq) (S.q.map put1)) (F : Nat → Prop) (hF : ∀ g, w.heap.size ≤ g → F g) (hA : ∀ g, Ah = some ⟨g, 0, none⟩ → F g) :
    Calls Try.prog 15 #[.agg (askv 0 at_ n A nk c), .agg (rrow Ah S.has.length ch Aq S.q.length cq S.armed dm S.dead S.ops).toArray] w (RSaid F w (armSt S n) Z0 (setErr S)) := by
  have HF := Lib.hid hF
  have HA := Lib.hid hA
  clear hF hA
  rw [hdd]
  have X0 := Lib.hid (SDW.start w #[.int .i64 0, .int .i64 at_, .int .i64 n, .slice A nk c] (rrow Ah S.has.length ch Aq S.q.length cq S.armed dm false S.ops))
  have RR : Hid (∀ W, Below w.heap.size w W → RRow F W (armSt S n) (rrow Ah S.has.length ch Aq S.q.length cq n dm false S.ops)) := fun W hb => by
    have e : armSt S n = { S with armed := n } := by simp [armSt, hdd]; unfold atl; split <;> omega
    rw [e]
    exact ⟨Ah, ch, Aq, cq, dm, hd, by dsimp only; rw [hdd], oh.below hb, oq.below hb, HA.out⟩
  have ER : Hid (setErr S = 0) := show _ = _ by simp [setErr, hdd]
  have HBZ := buildZ39
  clear oh oq hd
  unfold askv
  go_enter Try.func15, Try.ntmps15
  go_upto_region 1 with (fail)
  generalize (((w.alloc (.cells #[.int .i64 0, .int .i64 at_, .int .i64 n, .slice A nk c] 37)).alloc (.cells (rrow Ah S.has.length ch Aq S.q.length cq S.armed dm false S.ops).toArray 32)).alloc (.cells ZZ 32)).alloc (.cells Z0.toArray 39) = W0 at *
  have k0 : W0.cell? ⟨w.heap.size, 0, none⟩ = some (.int .i64 0) := X0.out.b2.cell 0
  have k2 : W0.cell? ⟨w.heap.size, 2, none⟩ = some (.int .i64 n) := X0.out.b2.cell 2
  have d4 : W0.cell? ⟨w.heap.size + 1, 4, none⟩ = some (.bool false) := X0.out.b3.cell 4
  have d2 : W0.cell? ⟨w.heap.size + 1, 2, none⟩ = some (.int .i64 S.armed) := X0.out.b3.cell 2
  have g2 := X0.out.b3.frozen 2
  have X6 : Hid (SDW w #[.int .i64 0, .int .i64 at_, .int .i64 n, .slice A nk c] (rrow Ah S.has.length ch Aq S.q.length cq n dm false S.ops) ZZ Z0.toArray (W0.setCell ⟨w.heap.size + 1, 2, none⟩ (.int .i64 n))) :=
    ⟨X0.out.below.setCell (p := ⟨w.heap.size + 1, 2, none⟩) (by simp) _, X0.out.b2.far (p := ⟨w.heap.size + 1, 2, none⟩) (by simp) _, X0.out.b3.set_ 2 _, X0.out.b4.far (p := ⟨w.heap.size + 1, 2, none⟩) (by simp) _, X0.out.b5.far (p := ⟨w.heap.size + 1, 2, none⟩) (by simp; omega) _⟩
  clear X0
  clear hdd
  go_wp2_with (first
    | ((with_reducible refine at_load (t := 32) ?_); refine wpList_load_mid rfl 32 _ rfl (w.heap.size + 1) 0 rfl (rrow Ah S.has.length ch Aq S.q.length cq n dm false S.ops) _ X6.out.b3.rng Try.underlying32 rfl Try.i32 ?_)
    | ((with_reducible refine at_store (t := 32) ?_); refine wpList_store_blk _ rfl 32 _ _ rfl (w.heap.size + 1 + 1) ZZ 32 (rrow Ah S.has.length ch Aq S.q.length cq n dm false S.ops) rfl rfl X6.out.b4 rfl Try.i32 (rrow_one _ _ _ _ _ _ _ _ _ _) ?_; intro w7 hb7 ho7; have X7 := Lib.hid (X6.out.put4 ho7 hb7); clear hb7 ho7)
    | ((with_reducible refine at_store (t := 39) ?_); refine wpList_store_blk _ rfl 39 _ _ rfl (w.heap.size + 1 + 1 + 1) Z0.toArray 39 Z0 rfl rfl X7.out.b5 rfl Try.i39 Z0.ok.one ?_; intro w8 hb8 ho8; have X8 := Lib.hid (X7.out.put5 ho8 hb8); clear hb8 ho8))
  refine bodyPost_ret (ret_cell2_tmp (p := 4) (q := 5) (u := 6) (ty := 32) (ty2 := 39) rfl _ _ (w.heap.size + 1 + 1) (w.heap.size + 1 + 1 + 1) 32 39 _ _ _ _ rfl X8.out.b4 Try.underlying32 rfl Try.i32 rfl X8.out.b5 Try.underlying39 rfl Try.i39) rfl ?_
  exact ⟨_, congrArg (fun z => Ending.returned (.tuple #[.agg (rrow Ah S.has.length ch Aq S.q.length cq n dm false S.ops).toArray, .agg Z0.toArray, .int .i64 z])) ER.out.symm, RR.out _ X8.out.below, X8.out.below⟩

set_option linter.unusedSimpArgs false in
set_option linter.unusedVariables false in
set_option maxRecDepth 100000 in
set_option maxHeartbeats 2000000 in
theorem said0_lt (at_ n : Int) (A : Option Addr) (nk c : Nat) (Ah : Option Addr) (ch : Nat) (Aq : Option Addr) (cq : Nat) (S : DSt) (dm : Int) (w : World) (hnn : n ≤ 9223372036854775807) (hdd : S.dead = false) (hn0 : n ≤ -2) (hd : S.dead = false → dm = S.doomed)
    (oh : Own w 0 39 64 (.slice Ah S.has.length ch) S.has) (oq : Own w 0 75 65 (.slice Aq S.q.length cq) (S.q.map put1)) (F : Nat → Prop) (hF : ∀ g, w.heap.size ≤ g → F g) (hA : ∀ g, Ah = some ⟨g, 0, none⟩ → F g) :
    Calls Try.prog 15 #[.agg (askv 0 at_ n A nk c), .agg (rrow Ah S.has.length ch Aq S.q.length cq S.armed dm S.dead S.ops).toArray] w (RSaid F w (armSt S n) Z0 (setErr S)) := by
  have HF := Lib.hid hF
  have HA := Lib.hid hA
  clear hF hA
  rw [hdd]
  have X0 := Lib.hid (SDW.start w #[.int .i64 0, .int .i64 at_, .int .i64 n, .slice A nk c] (rrow Ah S.has.length ch Aq S.q.length cq S.armed dm false S.ops))
  have RR : Hid (∀ W, Below w.heap.size w W → RRow F W (armSt S n) (rrow Ah S.has.length ch Aq S.q.length cq (-1) dm false S.ops)) := fun W hb => by
    have e : armSt S n = { S with armed := (-1) } := by simp [armSt, hdd]; unfold atl; split <;> omega
    rw [e]
    exact ⟨Ah, ch, Aq, cq, dm, hd, by dsimp only; rw [hdd], oh.below hb, oq.below hb, HA.out⟩
  have ER : Hid (setErr S = 0) := show _ = _ by simp [setErr, hdd]
  have HBZ := buildZ39
  clear oh oq hd
  unfold askv
  go_enter Try.func15, Try.ntmps15
  go_upto_region 1 with (fail)
  generalize (((w.alloc (.cells #[.int .i64 0, .int .i64 at_, .int .i64 n, .slice A nk c] 37)).alloc (.cells (rrow Ah S.has.length ch Aq S.q.length cq S.armed dm false S.ops).toArray 32)).alloc (.cells ZZ 32)).alloc (.cells Z0.toArray 39) = W0 at *
  have k0 : W0.cell? ⟨w.heap.size, 0, none⟩ = some (.int .i64 0) := X0.out.b2.cell 0
  have k2 : W0.cell? ⟨w.heap.size, 2, none⟩ = some (.int .i64 n) := X0.out.b2.cell 2
  have d4 : W0.cell? ⟨w.heap.size + 1, 4, none⟩ = some (.bool false) := X0.out.b3.cell 4
  have d2 : W0.cell? ⟨w.heap.size + 1, 2, none⟩ = some (.int .i64 S.armed) := X0.out.b3.cell 2
  have g2 := X0.out.b3.frozen 2
  have X6 : Hid (SDW w #[.int .i64 0, .int .i64 at_, .int .i64 n, .slice A nk c] (rrow Ah S.has.length ch Aq S.q.length cq (-1) dm false S.ops) ZZ Z0.toArray (W0.setCell ⟨w.heap.size + 1, 2, none⟩ (.int .i64 (-1)))) :=
    ⟨X0.out.below.setCell (p := ⟨w.heap.size + 1, 2, none⟩) (by simp) _, X0.out.b2.far (p := ⟨w.heap.size + 1, 2, none⟩) (by simp) _, X0.out.b3.set_ 2 _, X0.out.b4.far (p := ⟨w.heap.size + 1, 2, none⟩) (by simp) _, X0.out.b5.far (p := ⟨w.heap.size + 1, 2, none⟩) (by simp; omega) _⟩
  clear X0
  clear hdd
  go_wp2_with (first
    | ((with_reducible refine at_load (t := 32) ?_); refine wpList_load_mid rfl 32 _ rfl (w.heap.size + 1) 0 rfl (rrow Ah S.has.length ch Aq S.q.length cq (-1) dm false S.ops) _ X6.out.b3.rng Try.underlying32 rfl Try.i32 ?_)
    | ((with_reducible refine at_store (t := 32) ?_); refine wpList_store_blk _ rfl 32 _ _ rfl (w.heap.size + 1 + 1) ZZ 32 (rrow Ah S.has.length ch Aq S.q.length cq (-1) dm false S.ops) rfl rfl X6.out.b4 rfl Try.i32 (rrow_one _ _ _ _ _ _ _ _ _ _) ?_; intro w7 hb7 ho7; have X7 := Lib.hid (X6.out.put4 ho7 hb7); clear hb7 ho7)
    | ((with_reducible refine at_store (t := 39) ?_); refine wpList_store_blk _ rfl 39 _ _ rfl (w.heap.size + 1 + 1 + 1) Z0.toArray 39 Z0 rfl rfl X7.out.b5 rfl Try.i39 Z0.ok.one ?_; intro w8 hb8 ho8; have X8 := Lib.hid (X7.out.put5 ho8 hb8); clear hb8 ho8))
  refine bodyPost_ret (ret_cell2_tmp (p := 4) (q := 5) (u := 6) (ty := 32) (ty2 := 39) rfl _ _ (w.heap.size + 1 + 1) (w.heap.size + 1 + 1 + 1) 32 39 _ _ _ _ rfl X8.out.b4 Try.underlying32 rfl Try.i32 rfl X8.out.b5 Try.underlying39 rfl Try.i39) rfl ?_
  exact ⟨_, congrArg (fun z => Ending.returned (.tuple #[.agg (rrow Ah S.has.length ch Aq S.q.length cq (-1) dm false S.ops).toArray, .agg Z0.toArray, .int .i64 z])) ER.out.symm, RR.out _ X8.out.below, X8.out.below⟩

set_option linter.unusedSimpArgs false in
set_option linter.unusedVariables false in
set_option maxRecDepth 100000 in
set_option maxHeartbeats 2000000 in
theorem said1_dead (at_ n : Int) (A : Option Addr) (nk c : Nat) (Ah : Option Addr) (ch : Nat) (Aq : Option Addr) (cq : Nat) (S : DSt) (dm : Int) (w : World) (hnn : n ≤ 9223372036854775807) (hdd : S.dead = true) (hd : S.dead = false → dm = S.doomed)
    (oh : Own w 0 39 64 (.slice Ah S.has.length ch) S.has) (oq : Own w 0 75 65 (.slice Aq S.q.length cq) (S.q.map put1)) (F : Nat → Prop) (hF : ∀ g, w.heap.size ≤ g → F g) (hA : ∀ g, Ah = some ⟨g, 0, none⟩ → F g) :
    Calls Try.prog 15 #[.agg (askv 1 at_ n A nk c), .agg (rrow Ah S.has.length ch Aq S.q.length cq S.armed dm S.dead S.ops).toArray] w (RSaid F w (failSt S n) Z0 (setErr S)) := by
  have HF := Lib.hid hF
  have HA := Lib.hid hA
  clear hF hA
  rw [hdd]
  have X0 := Lib.hid (SDW.start w #[.int .i64 1, .int .i64 at_, .int .i64 n, .slice A nk c] (rrow Ah S.has.length ch Aq S.q.length cq S.armed dm true S.ops))
  have RR : Hid (∀ W, Below w.heap.size w W → RRow F W (failSt S n) (rrow Ah S.has.length ch Aq S.q.length cq S.armed dm true S.ops)) := fun W hb => by
    have e : failSt S n = S := by simp [failSt, hdd]
    rw [e]
    exact ⟨Ah, ch, Aq, cq, dm, hd, by rw [hdd], oh.below hb, oq.below hb, HA.out⟩
  have ER : Hid (setErr S = 9) := show _ = _ by simp [setErr, hdd]
  have HBZ := buildZ39
  clear oh oq hd
  unfold askv
  go_enter Try.func15, Try.ntmps15
  go_upto_region 1 with (fail)
  generalize (((w.alloc (.cells #[.int .i64 1, .int .i64 at_, .int .i64 n, .slice A nk c] 37)).alloc (.cells (rrow Ah S.has.length ch Aq S.q.length cq S.armed dm true S.ops).toArray 32)).alloc (.cells ZZ 32)).alloc (.cells Z0.toArray 39) = W0 at *
  have k0 : W0.cell? ⟨w.heap.size, 0, none⟩ = some (.int .i64 1) := X0.out.b2.cell 0
  have k2 : W0.cell? ⟨w.heap.size, 2, none⟩ = some (.int .i64 n) := X0.out.b2.cell 2
  have d4 : W0.cell? ⟨w.heap.size + 1, 4, none⟩ = some (.bool true) := X0.out.b3.cell 4
  have X6 := Lib.hid X0.out
  clear X0
  clear hdd
  go_wp2_with (first
    | ((with_reducible refine at_load (t := 32) ?_); refine wpList_load_mid rfl 32 _ rfl (w.heap.size + 1) 0 rfl (rrow Ah S.has.length ch Aq S.q.length cq S.armed dm true S.ops) _ X6.out.b3.rng Try.underlying32 rfl Try.i32 ?_)
    | ((with_reducible refine at_store (t := 32) ?_); refine wpList_store_blk _ rfl 32 _ _ rfl (w.heap.size + 1 + 1) ZZ 32 (rrow Ah S.has.length ch Aq S.q.length cq S.armed dm true S.ops) rfl rfl X6.out.b4 rfl Try.i32 (rrow_one _ _ _ _ _ _ _ _ _ _) ?_; intro w7 hb7 ho7; have X7 := Lib.hid (X6.out.put4 ho7 hb7); clear hb7 ho7)
    | ((with_reducible refine at_store (t := 39) ?_); refine wpList_store_blk _ rfl 39 _ _ rfl (w.heap.size + 1 + 1 + 1) Z0.toArray 39 Z0 rfl rfl X7.out.b5 rfl Try.i39 Z0.ok.one ?_; intro w8 hb8 ho8; have X8 := Lib.hid (X7.out.put5 ho8 hb8); clear hb8 ho8))
  refine bodyPost_ret (ret_cell2_tmp (p := 4) (q := 5) (u := 6) (ty := 32) (ty2 := 39) rfl _ _ (w.heap.size + 1 + 1) (w.heap.size + 1 + 1 + 1) 32 39 _ _ _ _ rfl X8.out.b4 Try.underlying32 rfl Try.i32 rfl X8.out.b5 Try.underlying39 rfl Try.i39) rfl ?_
  exact ⟨_, congrArg (fun z => Ending.returned (.tuple #[.agg (rrow Ah S.has.length ch Aq S.q.length cq S.armed dm true S.ops).toArray, .agg Z0.toArray, .int .i64 z])) ER.out.symm, RR.out _ X8.out.below, X8.out.below⟩

set_option linter.unusedSimpArgs false in
set_option linter.unusedVariables false in
set_option maxRecDepth 100000 in
set_option maxHeartbeats 2000000 in
theorem said1_ge (at_ n : Int) (A : Option Addr) (nk c : Nat) (Ah : Option Addr) (ch : Nat) (Aq : Option Addr) (cq : Nat) (S : DSt) (dm : Int) (w : World) (hnn : n ≤ 9223372036854775807) (hdd : S.dead = false) (hn0 : -1 ≤ n) (hd : S.dead = false → dm = S.doomed)
    (oh : Own w 0 39 64 (.slice Ah S.has.length ch) S.has) (oq : Own w 0 75 65 (.slice Aq S.q.length cq) (S.q.map put1)) (F : Nat → Prop) (hF : ∀ g, w.heap.size ≤ g → F g) (hA : ∀ g, Ah = some ⟨g, 0, none⟩ → F g) :
    Calls Try.prog 15 #[.agg (askv 1 at_ n A nk c), .agg (rrow Ah S.has.length ch Aq S.q.length cq S.armed dm S.dead S.ops).toArray] w (RSaid F w (failSt S n) Z0 (setErr S)) := by
  have HF := Lib.hid hF
  have HA := Lib.hid hA
  clear hF hA
  rw [hdd]
  have X0 := Lib.hid (SDW.start w #[.int .i64 1, .int .i64 at_, .int .i64 n, .slice A nk c] (rrow Ah S.has.length ch Aq S.q.length cq S.armed dm false S.ops))
  have RR : Hid (∀ W, Below w.heap.size w W → RRow F W (failSt S n) (rrow Ah S.has.length ch Aq S.q.length cq S.armed n false S.ops)) := fun W hb => by
    have e : failSt S n = { S with doomed := n } := by simp [failSt, hdd]; unfold atl; split <;> omega
    rw [e]
    exact ⟨Ah, ch, Aq, cq, n, fun _ => rfl, by dsimp only; rw [hdd], oh.below hb, oq.below hb, HA.out⟩
  have ER : Hid (setErr S = 0) := show _ = _ by simp [setErr, hdd]
  have HBZ := buildZ39
  clear oh oq hd
  unfold askv
  go_enter Try.func15, Try.ntmps15
  go_upto_region 1 with (fail)
  generalize (((w.alloc (.cells #[.int .i64 1, .int .i64 at_, .int .i64 n, .slice A nk c] 37)).alloc (.cells (rrow Ah S.has.length ch Aq S.q.length cq S.armed dm false S.ops).toArray 32)).alloc (.cells ZZ 32)).alloc (.cells Z0.toArray 39) = W0 at *
  have k0 : W0.cell? ⟨w.heap.size, 0, none⟩ = some (.int .i64 1) := X0.out.b2.cell 0
  have k2 : W0.cell? ⟨w.heap.size, 2, none⟩ = some (.int .i64 n) := X0.out.b2.cell 2
  have d4 : W0.cell? ⟨w.heap.size + 1, 4, none⟩ = some (.bool false) := X0.out.b3.cell 4
  have d3 : W0.cell? ⟨w.heap.size + 1, 3, none⟩ = some (.int .i64 dm) := X0.out.b3.cell 3
  have g3 := X0.out.b3.frozen 3
  have X6 : Hid (SDW w #[.int .i64 1, .int .i64 at_, .int .i64 n, .slice A nk c] (rrow Ah S.has.length ch Aq S.q.length cq S.armed n false S.ops) ZZ Z0.toArray (W0.setCell ⟨w.heap.size + 1, 3, none⟩ (.int .i64 n))) :=
    ⟨X0.out.below.setCell (p := ⟨w.heap.size + 1, 3, none⟩) (by simp) _, X0.out.b2.far (p := ⟨w.heap.size + 1, 3, none⟩) (by simp) _, X0.out.b3.set_ 3 _, X0.out.b4.far (p := ⟨w.heap.size + 1, 3, none⟩) (by simp) _, X0.out.b5.far (p := ⟨w.heap.size + 1, 3, none⟩) (by simp; omega) _⟩
  clear X0
  clear hdd
  go_wp2_with (first
    | ((with_reducible refine at_load (t := 32) ?_); refine wpList_load_mid rfl 32 _ rfl (w.heap.size + 1) 0 rfl (rrow Ah S.has.length ch Aq S.q.length cq S.armed n false S.ops) _ X6.out.b3.rng Try.underlying32 rfl Try.i32 ?_)
    | ((with_reducible refine at_store (t := 32) ?_); refine wpList_store_blk _ rfl 32 _ _ rfl (w.heap.size + 1 + 1) ZZ 32 (rrow Ah S.has.length ch Aq S.q.length cq S.armed n false S.ops) rfl rfl X6.out.b4 rfl Try.i32 (rrow_one _ _ _ _ _ _ _ _ _ _) ?_; intro w7 hb7 ho7; have X7 := Lib.hid (X6.out.put4 ho7 hb7); clear hb7 ho7)
    | ((with_reducible refine at_store (t := 39) ?_); refine wpList_store_blk _ rfl 39 _ _ rfl (w.heap.size + 1 + 1 + 1) Z0.toArray 39 Z0 rfl rfl X7.out.b5 rfl Try.i39 Z0.ok.one ?_; intro w8 hb8 ho8; have X8 := Lib.hid (X7.out.put5 ho8 hb8); clear hb8 ho8))
  refine bodyPost_ret (ret_cell2_tmp (p := 4) (q := 5) (u := 6) (ty := 32) (ty2 := 39) rfl _ _ (w.heap.size + 1 + 1) (w.heap.size + 1 + 1 + 1) 32 39 _ _ _ _ rfl X8.out.b4 Try.underlying32 rfl Try.i32 rfl X8.out.b5 Try.underlying39 rfl Try.i39) rfl ?_
  exact ⟨_, congrArg (fun z => Ending.returned (.tuple #[.agg (rrow Ah S.has.length ch Aq S.q.length cq S.armed n false S.ops).toArray, .agg Z0.toArray, .int .i64 z])) ER.out.symm, RR.out _ X8.out.below, X8.out.below⟩

set_option linter.unusedSimpArgs false in
set_option linter.unusedVariables false in
set_option maxRecDepth 100000 in
set_option maxHeartbeats 2000000 in
theorem said1_lt (at_ n : Int) (A : Option Addr) (nk c : Nat) (Ah : Option Addr) (ch : Nat) (Aq : Option Addr) (cq : Nat) (S : DSt) (dm : Int) (w : World) (hnn : n ≤ 9223372036854775807) (hdd : S.dead = false) (hn0 : n ≤ -2) (hd : S.dead = false → dm = S.doomed)
    (oh : Own w 0 39 64 (.slice Ah S.has.length ch) S.has) (oq : Own w 0 75 65 (.slice Aq S.q.length cq) (S.q.map put1)) (F : Nat → Prop) (hF : ∀ g, w.heap.size ≤ g → F g) (hA : ∀ g, Ah = some ⟨g, 0, none⟩ → F g) :
    Calls Try.prog 15 #[.agg (askv 1 at_ n A nk c), .agg (rrow Ah S.has.length ch Aq S.q.length cq S.armed dm S.dead S.ops).toArray] w (RSaid F w (failSt S n) Z0 (setErr S)) := by
  have HF := Lib.hid hF
  have HA := Lib.hid hA
  clear hF hA
  rw [hdd]
  have X0 := Lib.hid (SDW.start w #[.int .i64 1, .int .i64 at_, .int .i64 n, .slice A nk c] (rrow Ah S.has.length ch Aq S.q.length cq S.armed dm false S.ops))
  have RR : Hid (∀ W, Below w.heap.size w W → RRow F W (failSt S n) (rrow Ah S.has.length ch Aq S.q.length cq S.armed (-1) false S.ops)) := fun W hb => by
    have e : failSt S n = { S with doomed := (-1) } := by simp [failSt, hdd]; unfold atl; split <;> omega
    rw [e]
    exact ⟨Ah, ch, Aq, cq, (-1), fun _ => rfl, by dsimp only; rw [hdd], oh.below hb, oq.below hb, HA.out⟩
  have ER : Hid (setErr S = 0) := show _ = _ by simp [setErr, hdd]
  have HBZ := buildZ39
  clear oh oq hd
  unfold askv
  go_enter Try.func15, Try.ntmps15
  go_upto_region 1 with (fail)
  generalize (((w.alloc (.cells #[.int .i64 1, .int .i64 at_, .int .i64 n, .slice A nk c] 37)).alloc (.cells (rrow Ah S.has.length ch Aq S.q.length cq S.armed dm false S.ops).toArray 32)).alloc (.cells ZZ 32)).alloc (.cells Z0.toArray 39) = W0 at *
  have k0 : W0.cell? ⟨w.heap.size, 0, none⟩ = some (.int .i64 1) := X0.out.b2.cell 0
  have k2 : W0.cell? ⟨w.heap.size, 2, none⟩ = some (.int .i64 n) := X0.out.b2.cell 2
  have d4 : W0.cell? ⟨w.heap.size + 1, 4, none⟩ = some (.bool false) := X0.out.b3.cell 4
  have d3 : W0.cell? ⟨w.heap.size + 1, 3, none⟩ = some (.int .i64 dm) := X0.out.b3.cell 3
  have g3 := X0.out.b3.frozen 3
  have X6 : Hid (SDW w #[.int .i64 1, .int .i64 at_, .int .i64 n, .slice A nk c] (rrow Ah S.has.length ch Aq S.q.length cq S.armed (-1) false S.ops) ZZ Z0.toArray (W0.setCell ⟨w.heap.size + 1, 3, none⟩ (.int .i64 (-1)))) :=
    ⟨X0.out.below.setCell (p := ⟨w.heap.size + 1, 3, none⟩) (by simp) _, X0.out.b2.far (p := ⟨w.heap.size + 1, 3, none⟩) (by simp) _, X0.out.b3.set_ 3 _, X0.out.b4.far (p := ⟨w.heap.size + 1, 3, none⟩) (by simp) _, X0.out.b5.far (p := ⟨w.heap.size + 1, 3, none⟩) (by simp; omega) _⟩
  clear X0
  clear hdd
  go_wp2_with (first
    | ((with_reducible refine at_load (t := 32) ?_); refine wpList_load_mid rfl 32 _ rfl (w.heap.size + 1) 0 rfl (rrow Ah S.has.length ch Aq S.q.length cq S.armed (-1) false S.ops) _ X6.out.b3.rng Try.underlying32 rfl Try.i32 ?_)
    | ((with_reducible refine at_store (t := 32) ?_); refine wpList_store_blk _ rfl 32 _ _ rfl (w.heap.size + 1 + 1) ZZ 32 (rrow Ah S.has.length ch Aq S.q.length cq S.armed (-1) false S.ops) rfl rfl X6.out.b4 rfl Try.i32 (rrow_one _ _ _ _ _ _ _ _ _ _) ?_; intro w7 hb7 ho7; have X7 := Lib.hid (X6.out.put4 ho7 hb7); clear hb7 ho7)
    | ((with_reducible refine at_store (t := 39) ?_); refine wpList_store_blk _ rfl 39 _ _ rfl (w.heap.size + 1 + 1 + 1) Z0.toArray 39 Z0 rfl rfl X7.out.b5 rfl Try.i39 Z0.ok.one ?_; intro w8 hb8 ho8; have X8 := Lib.hid (X7.out.put5 ho8 hb8); clear hb8 ho8))
  refine bodyPost_ret (ret_cell2_tmp (p := 4) (q := 5) (u := 6) (ty := 32) (ty2 := 39) rfl _ _ (w.heap.size + 1 + 1) (w.heap.size + 1 + 1 + 1) 32 39 _ _ _ _ rfl X8.out.b4 Try.underlying32 rfl Try.i32 rfl X8.out.b5 Try.underlying39 rfl Try.i39) rfl ?_
  exact ⟨_, congrArg (fun z => Ending.returned (.tuple #[.agg (rrow Ah S.has.length ch Aq S.q.length cq S.armed (-1) false S.ops).toArray, .agg Z0.toArray, .int .i64 z])) ER.out.symm, RR.out _ X8.out.below, X8.out.below⟩

end Go.Proofs.Ytdhompiapklnaaa
