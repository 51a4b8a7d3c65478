/-
  The law's said, a crash.
-/
import Derived.Test.YtdhompiapklnaaaEG
namespace Go.Proofs.Ytdhompiapklnaaa
open Go.RowKit
attribute [local go_sem ↓] Try.z39 Try.z86 Try.z75 Try.z32

set_option linter.unusedSimpArgs false in
set_option linter.unusedVariables false in
set_option maxRecDepth 100000 in
set_option maxHeartbeats 4000000 in
theorem said2 (at_ n : Int) (A : Option Addr) (c : Nat) (ks : List Bool) (hl : ks.length ≤ 9223372036854775807)
    (Ah : Option Addr) (ch : Nat) (Aq : Option Addr) (cq : Nat) (S : DSt) (ok : S.ok) (hq : S.q.length ≤ 1000000) (hn : S.has.length ≤ 1000000) (hn0 : 0 < S.has.length) (dm : Int) (w : World) (hk : Bs w w.heap.size A ks)
    (oh : Own w 0 39 64 (.slice Ah S.has.length ch) S.has) (oq : Own w 0 75 65 (.slice Aq S.q.length cq) (S.q.map put1)) (F : Nat → Prop) (hF : ∀ g, w.heap.size ≤ g → F g) (hA : ∀ g, Ah = some ⟨g, 0, none⟩ → F g) :
    Calls Try.prog 15 #[.agg (askv 2 at_ n A ks.length c), .agg (rrow Ah S.has.length ch Aq S.q.length cq S.armed dm S.dead S.ops).toArray] w (RSaid F w (crashed S (ks.take 100)) Z0 0) := by
  have HF := Lib.hid hF
  have HA := Lib.hid hA
  clear hF hA
  have hl2 : (ks.take 100).length ≤ 9223372036854775807 := by simp; omega
  have HBK := Lib.hid (fun W (hb : Below w.heap.size w W) => keep_any 2 at_ n A c ks W ((hk.below hb).more hb.size) hl)
  have CR := Lib.hid (fun W (hb : Below w.heap.size w W) A2 c2 (h : Bs W W.heap.size A2 (ks.take 100)) => refcrash_any Ah ch Aq cq S ok hq hn hn0 dm A2 c2 (ks.take 100) hl2 W h (oh.below hb) (oq.below hb) F (fun g h => HF.out g (Nat.le_trans hb.size h)) HA.out)
  clear hk
  generalize ks.take 100 = k2 at *
  generalize ks.length = nk at *
  have X0 := Lib.hid (SDW.start w #[.int .i64 2, .int .i64 at_, .int .i64 n, .slice A nk c] (rrow Ah S.has.length ch Aq S.q.length cq S.armed dm S.dead S.ops))
  have iI : Hid ((Try.prog.info? 32).map (·.size) = some (rrow Ah S.has.length ch Aq S.q.length cq S.armed dm S.dead S.ops).length) := Try.i32
  have zI : Hid ((rrow Ah S.has.length ch Aq S.q.length cq S.armed dm S.dead S.ops).toArray.size = 6) := show _ = _ from rfl
  have HBZ := buildZ39
  have i37 : (Try.prog.info? 37).map (·.size) = some 4 := by kernel_rfl
  clear oh oq ok hl2
  unfold askv at *
  generalize rrow Ah S.has.length ch Aq S.q.length cq S.armed dm S.dead S.ops = rI at *
  go_enter Try.func15, Try.ntmps15
  go_upto_region 1 with (fail)
  generalize (((w.alloc (.cells #[.int .i64 2, .int .i64 at_, .int .i64 n, .slice A nk c] 37)).alloc (.cells rI.toArray 32)).alloc (.cells ZZ 32)).alloc (.cells Z0.toArray 39) = W0 at *
  have k0 : W0.cell? ⟨w.heap.size, 0, none⟩ = some (.int .i64 2) := X0.out.b2.cell 0
  go_wp2_with fail
  have HS : Hid (∀ W {r3 c4 c5}, SDW w #[.int .i64 2, .int .i64 at_, .int .i64 n, .slice A nk c] r3 c4 c5 W → W.cell? ⟨w.heap.size, 1, none⟩ = some (.int .i64 at_) ∧ W.rangeAt w.heap.size 0 [.int .i64 2, .int .i64 at_, .int .i64 n, .slice A nk c]) := fun W _ _ _ h => ⟨h.b2.cell 1, Blk.rng (cs := [.int .i64 2, .int .i64 at_, .int .i64 n, .slice A nk c]) h.b2⟩
  have X1 : Hid (SDW w #[.int .i64 2, .int .i64 at_, .int .i64 n, .slice A nk c] rI ZZ Z0.toArray W0.drew) := ⟨X0.out.below.drew, X0.out.b2, X0.out.b3, X0.out.b4, X0.out.b5⟩
  have hS0 : W0.drew.cell? ⟨w.heap.size, 1, none⟩ = some (.int .i64 at_) ∧ W0.drew.rangeAt w.heap.size 0 [.int .i64 2, .int .i64 at_, .int .i64 n, .slice A nk c] := HS.out _ X1.out
  clear X0 k0
  refine wp_region_noPanic ?_
  refine wp_region_held_drew (S := fun w' => w'.cell? ⟨w.heap.size, 1, none⟩ = some (.int .i64 at_) ∧ w'.rangeAt w.heap.size 0 [.int .i64 2, .int .i64 at_, .int .i64 n, .slice A nk c]) (by kernel_rfl) hS0 (fun hHeld => ?_)
  clear hS0
  generalize W0.drew = W1 at *
  refine take_d (i := 1) (d := 40) (v := .agg #[.int .i64 2, .int .i64 at_, .int .i64 n, .slice A nk c]) rfl rfl (by kernel_rfl) (by kernel_rfl) (by kernel_rfl) (fun _ _ _ h => h) (yieldsIf_load_mid (by kernel_rfl) _ _ rfl _ _ rfl [.int .i64 2, .int .i64 at_, .int .i64 n, .slice A nk c] _ (fun w h => h.2) Try.underlying37 rfl i37) hHeld ?_
  try simp only [Act.put, List.setIfInBounds_toArray, List.set_cons_zero, List.set_cons_succ]
  refine wpAnyH_ready (rs := [0, 2]) (by kernel_rfl) (by simp) ?_
  refine AllReadyH.cons rfl (fun K hK => ?_) (AllReadyH.cons rfl (fun K hK => ?_) AllReadyH.nil)
  · skip
    rw [if_pos (by kernel_rfl)]
    refine wp_load_mid 32 _ rfl (w.heap.size + 1) 0 rfl rI _ X1.out.b3.rng Try.underlying32 rfl iI.out ?_
    refine hK.out _ _ (HS.out _ X1.out) (fun hHeld => ?_)
    clear hK K
    try simp only [Act.put, List.setIfInBounds_toArray, List.set_cons_zero, List.set_cons_succ]
    refine wpAnyH_ready (rs := [2]) (by kernel_rfl) (by simp) ?_
    refine AllReadyH.cons rfl (fun K hK => ?_) AllReadyH.nil
    go_simp
    refine (HBK.out _ X1.out.below).mono ?_
    rintro e wa ⟨v, rfl, hkr, ka⟩
    obtain ⟨A2, c2, rfl, hkb⟩ := hkr.kb (b' := 0)
    have KB := Lib.hid hkb.bs
    have X2 := Lib.hid (X1.out.low ka)
    clear ka hkr hkb
    refine hK.out _ _ (HS.out _ X2.out) (fun hHeld => ?_)
    clear hK K
    try simp only [Act.put, List.setIfInBounds_toArray, List.set_cons_zero, List.set_cons_succ]
    refine wpAnyH_ready (rs := [3]) (by kernel_rfl) (by simp) ?_
    refine AllReadyH.cons rfl (fun K hK => ?_) AllReadyH.nil
    go_simp
    refine (CR.out _ X2.out.below A2 c2 KB.out).mono ?_
    rintro e wb ⟨rN, rfl, hrr, kb⟩
    have X5 := Lib.hid (X2.out.low kb)
    have RN := Lib.hid hrr
    have iN : Hid ((Try.prog.info? 32).map (·.size) = some rN.length) := show _ = _ by rw [hrr.one.1]; exact Try.i32
    have iNA : Hid ((Try.prog.info? 32).map (·.size) = some rN.toArray.size) := show _ = _ by rw [List.size_toArray, hrr.one.1]; exact Try.i32
    have zN : Hid (rI.toArray.size = rN.length) := show _ = _ by rw [hrr.one.1]; exact zI.out
    have zM : Hid (ZZ.size = rN.length) := show _ = _ by rw [hrr.one.1]; rfl
    have oN := Lib.hid hrr.one.2
    clear hrr kb
    refine hK.out _ _ (HS.out _ X5.out) (fun hHeld => ?_)
    clear hK K
    try simp only [Act.put, List.setIfInBounds_toArray, List.set_cons_zero, List.set_cons_succ]
    refine wpAnyH_ready (rs := [4]) (by kernel_rfl) (by simp) ?_
    refine AllReadyH.cons rfl (fun K hK => ?_) AllReadyH.nil
    rw [if_pos (by kernel_rfl)]
    refine wp_store_blk 32 _ _ rfl (w.heap.size + 1) rI.toArray 32 rN rfl rfl X5.out.b3 zN.out iN.out oN.out ?_
    intro w6 hb6 ho6
    have X6 := Lib.hid (X5.out.put3 ho6 hb6)
    have R6 := Lib.hid (RN.out.only ho6 X5.out.b3)
    clear hb6 ho6
    refine hK.out _ _ (HS.out _ X6.out) (fun hHeld => ?_)
    clear hK K
    try simp only [Act.put, List.setIfInBounds_toArray, List.set_cons_zero, List.set_cons_succ]
    refine wpAnyH_done (by kernel_rfl) ?_ _
    refine NoPanic.normal ?_
    clear hHeld CR HBK HS RN X5
    go_wp2_with (first
      | ((with_reducible refine at_load (t := 32) ?_); refine wpList_load_mid rfl 32 _ rfl (w.heap.size + 1) 0 rfl rN _ X6.out.b3.rng Try.underlying32 rfl iN.out ?_)
      | ((with_reducible refine at_store (t := 32) ?_); refine wpList_store_blk _ rfl 32 _ _ rfl (w.heap.size + 1 + 1) ZZ 32 rN rfl rfl X6.out.b4 zM.out iN.out oN.out ?_; intro w7 hb7 ho7; have X7 := Lib.hid (X6.out.put4 ho7 hb7); have R7 := Lib.hid (R6.out.only ho7 X6.out.b4); clear hb7 ho7)
      | ((with_reducible refine at_store (t := 39) ?_); refine wpList_store_blk _ rfl 39 _ _ rfl (w.heap.size + 1 + 1 + 1) Z0.toArray 39 Z0 rfl rfl X7.out.b5 rfl Try.i39 Z0.ok.one ?_; intro w8 hb8 ho8; have X8 := Lib.hid (X7.out.put5 ho8 hb8); have R8 := Lib.hid (R7.out.same ho8 X7.out.b5 hb8); clear hb8 ho8))
    refine bodyPost_ret (ret_cell2_tmp (p := 4) (q := 5) (u := 6) (ty := 32) (ty2 := 39) rfl _ _ (w.heap.size + 1 + 1) (w.heap.size + 1 + 1 + 1) 32 39 _ _ _ _ rfl X8.out.b4 Try.underlying32 rfl iNA.out rfl X8.out.b5 Try.underlying39 rfl Try.i39) rfl ?_
    exact ⟨rN, rfl, R8.out, X8.out.below⟩
  · skip
    go_simp
    refine (HBK.out _ X1.out.below).mono ?_
    rintro e wa ⟨v, rfl, hkr, ka⟩
    obtain ⟨A2, c2, rfl, hkb⟩ := hkr.kb (b' := 0)
    have KB := Lib.hid hkb.bs
    have X2 := Lib.hid (X1.out.low ka)
    clear ka hkr hkb
    refine hK.out _ _ (HS.out _ X2.out) (fun hHeld => ?_)
    clear hK K
    try simp only [Act.put, List.setIfInBounds_toArray, List.set_cons_zero, List.set_cons_succ]
    refine wpAnyH_ready (rs := [0]) (by kernel_rfl) (by simp) ?_
    refine AllReadyH.cons rfl (fun K hK => ?_) AllReadyH.nil
    rw [if_pos (by kernel_rfl)]
    refine wp_load_mid 32 _ rfl (w.heap.size + 1) 0 rfl rI _ X2.out.b3.rng Try.underlying32 rfl iI.out ?_
    refine hK.out _ _ (HS.out _ X2.out) (fun hHeld => ?_)
    clear hK K
    try simp only [Act.put, List.setIfInBounds_toArray, List.set_cons_zero, List.set_cons_succ]
    refine wpAnyH_ready (rs := [3]) (by kernel_rfl) (by simp) ?_
    refine AllReadyH.cons rfl (fun K hK => ?_) AllReadyH.nil
    go_simp
    refine (CR.out _ X2.out.below A2 c2 KB.out).mono ?_
    rintro e wb ⟨rN, rfl, hrr, kb⟩
    have X5 := Lib.hid (X2.out.low kb)
    have RN := Lib.hid hrr
    have iN : Hid ((Try.prog.info? 32).map (·.size) = some rN.length) := show _ = _ by rw [hrr.one.1]; exact Try.i32
    have iNA : Hid ((Try.prog.info? 32).map (·.size) = some rN.toArray.size) := show _ = _ by rw [List.size_toArray, hrr.one.1]; exact Try.i32
    have zN : Hid (rI.toArray.size = rN.length) := show _ = _ by rw [hrr.one.1]; exact zI.out
    have zM : Hid (ZZ.size = rN.length) := show _ = _ by rw [hrr.one.1]; rfl
    have oN := Lib.hid hrr.one.2
    clear hrr kb
    refine hK.out _ _ (HS.out _ X5.out) (fun hHeld => ?_)
    clear hK K
    try simp only [Act.put, List.setIfInBounds_toArray, List.set_cons_zero, List.set_cons_succ]
    refine wpAnyH_ready (rs := [4]) (by kernel_rfl) (by simp) ?_
    refine AllReadyH.cons rfl (fun K hK => ?_) AllReadyH.nil
    rw [if_pos (by kernel_rfl)]
    refine wp_store_blk 32 _ _ rfl (w.heap.size + 1) rI.toArray 32 rN rfl rfl X5.out.b3 zN.out iN.out oN.out ?_
    intro w6 hb6 ho6
    have X6 := Lib.hid (X5.out.put3 ho6 hb6)
    have R6 := Lib.hid (RN.out.only ho6 X5.out.b3)
    clear hb6 ho6
    refine hK.out _ _ (HS.out _ X6.out) (fun hHeld => ?_)
    clear hK K
    try simp only [Act.put, List.setIfInBounds_toArray, List.set_cons_zero, List.set_cons_succ]
    refine wpAnyH_done (by kernel_rfl) ?_ _
    refine NoPanic.normal ?_
    clear hHeld CR HBK HS RN X5
    go_wp2_with (first
      | ((with_reducible refine at_load (t := 32) ?_); refine wpList_load_mid rfl 32 _ rfl (w.heap.size + 1) 0 rfl rN _ X6.out.b3.rng Try.underlying32 rfl iN.out ?_)
      | ((with_reducible refine at_store (t := 32) ?_); refine wpList_store_blk _ rfl 32 _ _ rfl (w.heap.size + 1 + 1) ZZ 32 rN rfl rfl X6.out.b4 zM.out iN.out oN.out ?_; intro w7 hb7 ho7; have X7 := Lib.hid (X6.out.put4 ho7 hb7); have R7 := Lib.hid (R6.out.only ho7 X6.out.b4); clear hb7 ho7)
      | ((with_reducible refine at_store (t := 39) ?_); refine wpList_store_blk _ rfl 39 _ _ rfl (w.heap.size + 1 + 1 + 1) Z0.toArray 39 Z0 rfl rfl X7.out.b5 rfl Try.i39 Z0.ok.one ?_; intro w8 hb8 ho8; have X8 := Lib.hid (X7.out.put5 ho8 hb8); have R8 := Lib.hid (R7.out.same ho8 X7.out.b5 hb8); clear hb8 ho8))
    refine bodyPost_ret (ret_cell2_tmp (p := 4) (q := 5) (u := 6) (ty := 32) (ty2 := 39) rfl _ _ (w.heap.size + 1 + 1) (w.heap.size + 1 + 1 + 1) 32 39 _ _ _ _ rfl X8.out.b4 Try.underlying32 rfl iNA.out rfl X8.out.b5 Try.underlying39 rfl Try.i39) rfl ?_
    exact ⟨rN, rfl, R8.out, X8.out.below⟩

end Go.Proofs.Ytdhompiapklnaaa
