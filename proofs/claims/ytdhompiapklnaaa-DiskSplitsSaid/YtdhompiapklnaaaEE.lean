/-
  The law's said, the two reads.
-/
import Derived.Test.YtdhompiapklnaaaED
namespace Go.Proofs.Ytdhompiapklnaaa
open Go.RowKit
attribute [local go_sem ↓] Try.z39 Try.z86 Try.z75 Try.z32

set_option linter.unusedSimpArgs false in
set_option linter.unusedVariables false in
set_option maxRecDepth 100000 in
set_option maxHeartbeats 2000000 in
theorem said4 (at_ n : Int) (A : Option Addr) (nk c : Nat) (Ah : Option Addr) (ch : Nat) (Aq : Option Addr) (cq : Nat) (S : DSt) (ok : S.ok) (hq : S.q.length ≤ 1000000) (hn : S.has.length ≤ 1000000) (dm : Int) (w : World) (hd : S.dead = false → dm = S.doomed)
    (oh : Own w 0 39 64 (.slice Ah S.has.length ch) S.has) (oq : Own w 0 75 65 (.slice Aq S.q.length cq) (S.q.map put1)) (F : Nat → Prop) (hF : ∀ g, w.heap.size ≤ g → F g) (hA : ∀ g, Ah = some ⟨g, 0, none⟩ → F g) :
    Calls Try.prog 15 #[.agg (askv 4 at_ n A nk c), .agg (rrow Ah S.has.length ch Aq S.q.length cq S.armed dm S.dead S.ops).toArray] w (RSaid F w (askSt S false at_) (readB S at_) (askErr S false at_)) := by
  have HF := Lib.hid hF
  have HA := Lib.hid hA
  clear hF hA
  have RD := Lib.hid (fun W (hb : Below w.heap.size w W) => refread_any Ah ch Aq cq S ok hq hn dm at_ W hd (oh.below hb) (oq.below hb))
  have RR : Hid (∀ W dm', Below w.heap.size w W → ((askSt S false at_).dead = false → dm' = (askSt S false at_).doomed) → RRow F W (askSt S false at_) (rrow Ah S.has.length ch Aq S.q.length cq (askSt S false at_).armed dm' (askSt S false at_).dead (askSt S false at_).ops)) := fun W dm' hb hdm =>
    ⟨Ah, ch, Aq, cq, dm', hdm, by rw [askSt_has, askSt_q], by rw [askSt_has]; exact oh.below hb, by rw [askSt_q]; exact oq.below hb, HA.out⟩
  have X0 := Lib.hid (SDW.start w #[.int .i64 4, .int .i64 at_, .int .i64 n, .slice A nk c] (rrow Ah S.has.length ch Aq S.q.length cq S.armed dm S.dead S.ops))
  have iI : Hid ((Try.prog.info? 32).map (·.size) = some (rrow Ah S.has.length ch Aq S.q.length cq S.armed dm S.dead S.ops).length) := Try.i32
  have hR := readB_ok ok at_
  have i39 : Hid ((Try.prog.info? 39).map (·.size) = some (readB S at_).length) := show _ = _ by rw [hR.1]; exact Try.i39
  have i39A : Hid ((Try.prog.info? 39).map (·.size) = some (readB S at_).toArray.size) := show _ = _ by rw [List.size_toArray, hR.1]; exact Try.i39
  have z39' : Hid (Z0.toArray.size = (readB S at_).length) := show _ = _ by rw [hR.1]; rfl
  have o39 := Lib.hid hR.one
  clear oh oq ok hd hR
  unfold askv
  generalize rrow Ah S.has.length ch Aq S.q.length cq S.armed dm S.dead S.ops = rI at *
  go_enter Try.func15, Try.ntmps15
  go_upto_region 1 with (fail)
  generalize (((w.alloc (.cells #[.int .i64 4, .int .i64 at_, .int .i64 n, .slice A nk c] 37)).alloc (.cells rI.toArray 32)).alloc (.cells ZZ 32)).alloc (.cells Z0.toArray 39) = W0 at *
  have k0 : W0.cell? ⟨w.heap.size, 0, none⟩ = some (.int .i64 4) := X0.out.b2.cell 0
  have k1 : W0.cell? ⟨w.heap.size, 1, none⟩ = some (.int .i64 at_) := X0.out.b2.cell 1
  go_wp2_with ((with_reducible refine at_load (t := 32) ?_); refine wpList_load_mid rfl 32 _ rfl (w.heap.size + 1) 0 rfl rI _ X0.out.b3.rng Try.underlying32 rfl iI.out ?_)
  refine (RD.out _ X0.out.below).mono ?_
  rintro e w5 ⟨dm', hdm, rfl, k5⟩
  have X5 := Lib.hid (X0.out.low k5)
  have R5 := Lib.hid (fun W hb => RR.out W dm' hb hdm)
  clear hdm k5 RD X0 k0 k1 RR
  go_wp2_with (first
    | ((with_reducible refine at_store (t := 32) ?_); refine wpList_store_blk _ rfl 32 _ _ rfl (w.heap.size + 1 + 1) ZZ 32 (rrow Ah S.has.length ch Aq S.q.length cq (askSt S false at_).armed dm' (askSt S false at_).dead (askSt S false at_).ops) rfl rfl X5.out.b4 rfl Try.i32 (rrow_one _ _ _ _ _ _ _ _ _ _) ?_; intro w7 hb7 ho7; have X7 := Lib.hid (X5.out.put4 ho7 hb7); clear hb7 ho7)
    | ((with_reducible refine at_store (t := 39) ?_); refine wpList_store_blk _ rfl 39 _ _ rfl (w.heap.size + 1 + 1 + 1) Z0.toArray 39 (readB S at_) rfl rfl X7.out.b5 z39'.out i39.out o39.out ?_; intro w8 hb8 ho8; have X8 := Lib.hid (X7.out.put5 ho8 hb8); clear hb8 ho8))
  refine bodyPost_ret (ret_cell2_tmp (p := 4) (q := 5) (u := 6) (ty := 32) (ty2 := 39) rfl _ _ (w.heap.size + 1 + 1) (w.heap.size + 1 + 1 + 1) 32 39 _ _ _ _ rfl X8.out.b4 Try.underlying32 rfl Try.i32 rfl X8.out.b5 Try.underlying39 rfl i39A.out) rfl ?_
  exact ⟨_, rfl, R5.out _ X8.out.below, X8.out.below⟩

set_option linter.unusedSimpArgs false in
set_option linter.unusedVariables false in
set_option maxRecDepth 100000 in
set_option maxHeartbeats 2000000 in
theorem said5 (at_ n : Int) (A : Option Addr) (nk c : Nat) (Ah : Option Addr) (ch : Nat) (Aq : Option Addr) (cq : Nat) (S : DSt) (ok : S.ok) (hq : S.q.length ≤ 1000000) (hn : S.has.length ≤ 1000000) (dm : Int) (w : World) (hd : S.dead = false → dm = S.doomed)
    (oh : Own w 0 39 64 (.slice Ah S.has.length ch) S.has) (oq : Own w 0 75 65 (.slice Aq S.q.length cq) (S.q.map put1)) (F : Nat → Prop) (hF : ∀ g, w.heap.size ≤ g → F g) (hA : ∀ g, Ah = some ⟨g, 0, none⟩ → F g) :
    Calls Try.prog 15 #[.agg (askv 5 at_ n A nk c), .agg (rrow Ah S.has.length ch Aq S.q.length cq S.armed dm S.dead S.ops).toArray] w (RSaid F w (askSt S false at_) (readB S at_) (askErr S false at_)) := by
  have HF := Lib.hid hF
  have HA := Lib.hid hA
  clear hF hA
  have RD := Lib.hid (fun W (hb : Below w.heap.size w W) => refread_any Ah ch Aq cq S ok hq hn dm at_ W hd (oh.below hb) (oq.below hb))
  have RR : Hid (∀ W dm', Below w.heap.size w W → ((askSt S false at_).dead = false → dm' = (askSt S false at_).doomed) → RRow F W (askSt S false at_) (rrow Ah S.has.length ch Aq S.q.length cq (askSt S false at_).armed dm' (askSt S false at_).dead (askSt S false at_).ops)) := fun W dm' hb hdm =>
    ⟨Ah, ch, Aq, cq, dm', hdm, by rw [askSt_has, askSt_q], by rw [askSt_has]; exact oh.below hb, by rw [askSt_q]; exact oq.below hb, HA.out⟩
  have X0 := Lib.hid (SDW.start w #[.int .i64 5, .int .i64 at_, .int .i64 n, .slice A nk c] (rrow Ah S.has.length ch Aq S.q.length cq S.armed dm S.dead S.ops))
  have iI : Hid ((Try.prog.info? 32).map (·.size) = some (rrow Ah S.has.length ch Aq S.q.length cq S.armed dm S.dead S.ops).length) := Try.i32
  have hR := readB_ok ok at_
  have i39 : Hid ((Try.prog.info? 39).map (·.size) = some (readB S at_).length) := show _ = _ by rw [hR.1]; exact Try.i39
  have i39A : Hid ((Try.prog.info? 39).map (·.size) = some (readB S at_).toArray.size) := show _ = _ by rw [List.size_toArray, hR.1]; exact Try.i39
  have z39' : Hid (Z0.toArray.size = (readB S at_).length) := show _ = _ by rw [hR.1]; rfl
  have o39 := Lib.hid hR.one
  clear oh oq ok hd hR
  unfold askv
  generalize rrow Ah S.has.length ch Aq S.q.length cq S.armed dm S.dead S.ops = rI at *
  go_enter Try.func15, Try.ntmps15
  go_upto_region 1 with (fail)
  generalize (((w.alloc (.cells #[.int .i64 5, .int .i64 at_, .int .i64 n, .slice A nk c] 37)).alloc (.cells rI.toArray 32)).alloc (.cells ZZ 32)).alloc (.cells Z0.toArray 39) = W0 at *
  have k0 : W0.cell? ⟨w.heap.size, 0, none⟩ = some (.int .i64 5) := X0.out.b2.cell 0
  have k1 : W0.cell? ⟨w.heap.size, 1, none⟩ = some (.int .i64 at_) := X0.out.b2.cell 1
  go_wp2_with ((with_reducible refine at_load (t := 32) ?_); refine wpList_load_mid rfl 32 _ rfl (w.heap.size + 1) 0 rfl rI _ X0.out.b3.rng Try.underlying32 rfl iI.out ?_)
  refine (RD.out _ X0.out.below).mono ?_
  rintro e w5 ⟨dm', hdm, rfl, k5⟩
  have X5 := Lib.hid (X0.out.low k5)
  have R5 := Lib.hid (fun W hb => RR.out W dm' hb hdm)
  clear hdm k5 RD X0 k0 k1 RR
  go_wp2_with (first
    | ((with_reducible refine at_store (t := 32) ?_); refine wpList_store_blk _ rfl 32 _ _ rfl (w.heap.size + 1 + 1) ZZ 32 (rrow Ah S.has.length ch Aq S.q.length cq (askSt S false at_).armed dm' (askSt S false at_).dead (askSt S false at_).ops) rfl rfl X5.out.b4 rfl Try.i32 (rrow_one _ _ _ _ _ _ _ _ _ _) ?_; intro w7 hb7 ho7; have X7 := Lib.hid (X5.out.put4 ho7 hb7); clear hb7 ho7)
    | ((with_reducible refine at_store (t := 39) ?_); refine wpList_store_blk _ rfl 39 _ _ rfl (w.heap.size + 1 + 1 + 1) Z0.toArray 39 (readB S at_) rfl rfl X7.out.b5 z39'.out i39.out o39.out ?_; intro w8 hb8 ho8; have X8 := Lib.hid (X7.out.put5 ho8 hb8); clear hb8 ho8))
  refine bodyPost_ret (ret_cell2_tmp (p := 4) (q := 5) (u := 6) (ty := 32) (ty2 := 39) rfl _ _ (w.heap.size + 1 + 1) (w.heap.size + 1 + 1 + 1) 32 39 _ _ _ _ rfl X8.out.b4 Try.underlying32 rfl Try.i32 rfl X8.out.b5 Try.underlying39 rfl i39A.out) rfl ?_
  exact ⟨_, rfl, R5.out _ X8.out.below, X8.out.below⟩

end Go.Proofs.Ytdhompiapklnaaa
