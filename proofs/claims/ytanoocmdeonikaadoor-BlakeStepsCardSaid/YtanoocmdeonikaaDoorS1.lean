/-
  The law BlakeSteps, walked.
-/
import Derived.Test.YtanoocmdeonikaaDoorS0
import Derived.StillTailTactics
import Derived.BigQuiet
namespace Go.Proofs.YtanoocmdeonikaaDoor
open Go.RowKit
attribute [local go_sem ↓] Tryd.z42 Tryd.z70 Tryd.z27 Tryd.z45 Tryd.z37 Tryd.z38

theorem Own.max {w : World} {base n c : Nat} {A : Option Addr} {zs : List Int} (h : Own w base A n c zs) : c ≤ 9223372036854775807 := by
  rcases h.1.2 with ⟨hv, hn⟩ | ⟨g, cap, cur, hv, hb, hh, hnc, hm, _⟩
  · injection hv with h1 h2 h3
    omega
  · injection hv with h1 h2 h3
    unfold maxLen at hm
    omega

theorem arrayAt45 (a : Option Addr) (n c : Nat) (w : World) (h : 64 ≤ n) : (Instr.arrayAt 45 (.slice a n c)).run Tryd.prog w = .ok (.pointer a) w := by
  have h2 : ¬ (n < 64) := by omega
  simp [Instr.arrayAt, run_underlying Tryd.underlying45, h2]

set_option maxRecDepth 100000 in
set_option maxHeartbeats 8000000 in
theorem steps_walk (A : Option Addr) (n c : Nat) (zs : List Int) (w : World) (hz : By w w.heap.size A n zs) (hnc : n ≤ c) (hG : Gl w) :
    Calls Tryd.prog 7 #[.slice A n c] w fun e w' => e = .returned (.bool true) ∧ Below w.heap.size w w' := by
  have Z0 := Lib.hid hz
  have G0 := Lib.hid hG
  have WK := Lib.hid (wakes_any w hG)
  have HNC := Lib.hid hnc
  clear hz hG hnc
  go_enter Tryd.func7, Tryd.ntmps7
  go_wp2_with fail
  refine WK.out.mono ?_
  rintro e w1 ⟨rfl, hb1⟩
  have B1 := Lib.hid hb1
  clear WK hb1
  go_wp2_with fail
  refine (few_any A n c zs w1 w.heap.size (Z0.out.below B1.out) HNC.out).mono ?_
  rintro e w2 ⟨A', c', rfl, ho, hb2⟩
  have hm1 : min n 1000 ≤ 1000 := by omega
  generalize min n 1000 = m at *
  generalize zs.take 1000 = ys at *
  have hmc : m ≤ c' := ho.cap
  have hc' : c' ≤ 9223372036854775807 := ho.max
  have Y2 := Lib.hid ho.by
  have B2 := Lib.hid (B1.out.trans (hb2.mono B1.out.size))
  have G2 := Lib.hid (G0.out.low B2.out)
  clear Z0 HNC B1 hb2 ho
  go_wp2_with fail
  refine (start_any w2 G2.out).mono ?_
  rintro e w3 ⟨rfl, hb3⟩
  have T0 : Hid (∀ w4 : World, Only w3.heap.size (w3.alloc (.cells (ZU 8).toArray 42)) w4 → Blk w4 w3.heap.size 42 (UL startL).toArray → LW w w3.heap.size A' m ys startL w4) := fun w4 ho hb =>
    have b3 := B2.out.trans (hb3.mono B2.out.size)
    have b := (b3.alloc b3.size (.cells (ZU 8).toArray 42)).trans (ho.below b3.size)
    ⟨b, G0.out.low b, G0.out.lt, b3.size, (((Y2.out.below hb3).more hb3.size).below (((Below.refl _ w3).alloc (Nat.le_refl _) _).trans (ho.below (Nat.le_refl _)))), hb⟩
  clear Y2 G2 G0 B2 hb3
  have hg := Lib.hid (rfl : w3.heap.size = w3.heap.size)
  go_wp2_with ((with_reducible refine at_store (t := 42) ?_); refine wpList_store_blk _ rfl 42 _ _ rfl w3.heap.size (ZU 8).toArray 42 (UL startL) rfl rfl (Blk.new w3 42 _) rfl Tryd.i42 (UL.one _) ?_; intro w4 hb4 ho4; have T1 := Lib.hid (T0.out _ ho4 hb4); clear T0 hb4 ho4 hg; generalize w3.heap.size = g at *; have h0 := (T1.out.hb.cell 0).trans (UL.gt (l := startL) (i := 0) (by decide)); have f0 := T1.out.hb.frozen 0)
  have T2 : Hid (LW w g A' m ys (sumL ys 0) (w4.setCell ⟨g, 0, none⟩ (.int .u32 (bits .xor .u32 (tn (gt startL 0) : Int) 16842784)))) := by
    have o : Only g w4 (w4.setCell ⟨g, 0, none⟩ (.int .u32 (bits .xor .u32 (tn (gt startL 0) : Int) 16842784))) := ⟨rfl, rfl, rfl, by simp [World.setCell], fun k hk => Below.heap_setCell w4 _ _ k hk⟩
    refine T1.out.put o ?_
    have := T1.out.hb.set_ 0 (.int .u32 (bits .xor .u32 (tn (gt startL 0) : Int) 16842784))
    rw [xor_bv, bv_tn, UL.set] at this
    rw [xor_bv, bv_tn]
    exact this
  clear T1 h0 f0
  generalize w4.setCell ⟨g, 0, none⟩ (.int .u32 (bits .xor .u32 (tn (gt startL 0) : Int) 16842784)) = W0 at *
  go_loopw [4] (fun i wr => ∃ k : Nat, (k * 64 ≤ m ∧ (k = 0 ∨ k * 64 < m)) ∧ i = .int .i64 ((k : Int) * 64) ∧ LW w g A' m ys (sumL ys k) wr) (fun i _ => 2000 - (intOf i).toNat)
  case atStart => exact ⟨0, ⟨by omega, .inl rfl⟩, by simp, T2.out⟩
  case round =>
    obtain ⟨k, ⟨hk1, hk2⟩, rfl, ht⟩ := hrel
    have T := Lib.hid ht
    clear T2 ht
    have yl := Lib.hid (T.out.by_.1)
    have ybs := Lib.hid (T.out.by_.bs)
    have BA := Lib.hid (fun t t0 t1 last W g => block_any (sumL ys k) (sumL_len ys k) (blk64 ys k) (blk64_len ys k) (blk64_bs ybs.out k) t t0 t1 last W g)
    have e0 : IntKind.i64.wrap ((m : Int) - (k : Int) * 64) = (m : Int) - (k : Int) * 64 := IntWalk.i64_in _ (by omega)
    have e2 : 0 ≤ (k : Int) * 64 := by omega
    have e4 : ((k : Int) * 64).toNat = k * 64 := by omega
    have e5 : (k : Int) * 64 ≤ m := by omega
    have hcI : (m : Int) ≤ c' := by omega
    have n0 : (0 : Int) ≤ m := by omega
    have iH : Hid ((Tryd.prog.info? 42).map (·.size) = some (UL (sumL ys k)).length) := show _ = _ by rw [UL.len, sumL_len]; exact Tryd.i42
    have iB : Hid ((Tryd.prog.info? 45).map (·.size) = some (BL (blk64 ys k)).length) := show _ = _ by rw [BL.len, blk64_len]; exact Tryd.i45
    have iN : Hid ((Tryd.prog.info? 42).map (·.size) = some (UL (sumL ys (k + 1))).length) := show _ = _ by rw [UL.len, sumL_len]; exact Tryd.i42
    have zN : Hid ((UL (sumL ys k)).toArray.size = (UL (sumL ys (k + 1))).length) := show _ = _ by rw [List.size_toArray, UL.len, UL.len, sumL_len, sumL_len]
    have oN := Lib.hid (UL.one (sumL ys (k + 1)))
    by_cases hlt : 64 < m - k * 64
    · have hltI : (64 : Int) < (m : Int) - (k : Int) * 64 := by omega
      have SE : Hid (UL (blockF (sumL ys k) (blk64 ys k) ((k : Int) * 64 + 64) false) = UL (sumL ys (k + 1))) := show _ = _ by rw [sumL_more ys k (by rw [yl.out]; exact hlt)]
      have hn1 : ¬ (c' = k * 64) := by omega
      have hn2 : ¬ (k * 64 = c') := by omega
      have hn3 : ¬ (m - k * 64 < 64) := by omega
      have hn4 : 64 ≤ m - k * 64 := by omega
      have ra : ∀ (a : Option Addr) (c : Nat) (w : World), (Instr.arrayAt 45 (.slice a (m - k * 64) c)).run Tryd.prog w = .ok (.pointer a) w := fun a c w => arrayAt45 a _ c w hn4
      have u1 : ((k : Int) * 64) % 18446744073709551616 = (k : Int) * 64 := by omega
      have u2 : ((k : Int) * 64 + 64) % 18446744073709551616 = (k : Int) * 64 + 64 := by omega
      obtain ⟨b, o, hA, hbg, hcell⟩ := T.out.by_.2.2 (by omega)
      have HA : Hid (Option.map (fun x : Addr => x.add (k * 64)) A' = some ⟨b, o + k * 64, none⟩) := show _ = _ by
        rw [hA]
        exact congrArg some (add_at b o (k * 64))
      have RB : Hid (wr.drew.rangeAt b (o + k * 64) (BL (blk64 ys k))) := fun j v hj => by
        have hj1 := (List.getElem?_eq_some_iff.1 hj).1
        rw [BL.len, blk64_len] at hj1
        have := hcell (k * 64 + j) (by omega)
        rw [BL.get _ j (by rw [blk64_len]; exact hj1), blk64_full ys k (by rw [yl.out]; exact hlt)] at hj
        rw [← hj]
        refine Eq.trans (b := wr.cell? ⟨b, o + (k * 64 + j), none⟩) (by rw [Nat.add_assoc]; rfl) (this.trans ?_)
        simp [List.getD, hj1]
      have RH : Hid (wr.drew.rangeAt g 0 (UL (sumL ys k))) := T.out.drew.hb.rng
      have T1 := Lib.hid T.out.drew
      clear hA hcell hbg T
      go_wp2_with fail
      refine wp_region_still_tail 9 (by kernel_rfl) (by kernel_rfl) ?_
      simp only [List.take_succ_cons, List.take_zero, List.drop_succ_cons, List.drop_zero]
      refine wpStill_load_mid rfl 42 _ rfl g 0 rfl (UL (sumL ys k)) _ RH.out Tryd.underlying42 rfl iH.out ?_
      still_step
      still_step
      still_step
      still_step
      refine wpStill_load_mid rfl 45 _ rfl b (o + k * 64) (congrArg Value.pointer HA.out) (BL (blk64 ys k)) _ RB.out Tryd.underlying45 rfl iB.out ?_
      still_step
      still_step
      still_step
      refine wpStill_nil ?_
      change wpList _ _ _ _ _ wr.drew
      clear RB RH HA
      generalize wr.drew = W1 at *
      go_wp2_with fail
      refine (BA.out ((k : Int) * 64 + 64) (by omega) (by omega) false _ T1.out.gl).mono ?_
      rintro e w5 ⟨rfl, hb5⟩
      rw [SE.out]
      have T5 := Lib.hid (T1.out.low hb5)
      clear T1 hb5 BA SE
      go_wp2_with ((with_reducible refine at_store (t := 42) ?_); refine wpList_store_blk _ rfl 42 _ _ rfl g (UL (sumL ys k)).toArray 42 (UL (sumL ys (k + 1))) rfl rfl T5.out.hb zN.out iN.out oN.out ?_; intro w6 hb6 ho6)
      exact ⟨⟨k + 1, ⟨by omega, .inr (by omega)⟩, by go_num, T5.out.put ho6 hb6⟩, by simp [intOf]; omega⟩
    · have hle : m - k * 64 ≤ 64 := by omega
      have hleI : (m : Int) - (k : Int) * 64 ≤ 64 := by omega
      obtain ⟨sl1, sl2⟩ := sumL_last ys k (by rw [yl.out]; exact hk1) (by rw [yl.out]; exact hk2) (by rw [yl.out]; exact hle)
      rw [yl.out] at sl1
      have SE : Hid (UL (blockF (sumL ys k) (blk64 ys k) (m : Int) true) = UL (sumL ys (k + 1))) := show _ = _ by rw [sl1]
      have SF : Hid (sumF ys = digestF (sumL ys (k + 1))) := sl2
      have F1 := Lib.hid (BL.one ((ys.drop (k * 64)).take 64))
      have FN : Hid ((BL ((ys.drop (k * 64)).take 64)).length = Nat.min (m - k * 64) 64) := show _ = _ by rw [BL.len, List.length_take, List.length_drop, yl.out, Nat.min_comm]
      have FF : Hid (0 + (BL ((ys.drop (k * 64)).take 64)).length ≤ (ZB 64).length) := show _ ≤ _ by rw [FN.out, ZB.len]; show 0 + min _ _ ≤ _; omega
      have FG : Hid ((wr.alloc (.cells (ZB 64).toArray 45)).heap[wr.heap.size]? = some (.cells (ZB 64).toArray 45 (0, 0))) := Blk.new wr 45 _
      have FB : Hid (Below wr.heap.size wr (wr.alloc (.cells (ZB 64).toArray 45))) := (Below.refl _ wr).alloc (Nat.le_refl _) _
      have CUT := Lib.hid ((T.out.low FB.out).by_.cut (k := k * 64) (m := min (m - k * 64) 64) (c := c') (by omega) hk1 hmc)
      have FP : Hid (0 < (BL ((ys.drop (k * 64)).take 64)).length → ∃ ad, (if c' = k * 64 then A' else A'.map (·.add (k * 64))) = some ad ∧ ∀ j v, (BL ((ys.drop (k * 64)).take 64))[j]? = some v → (wr.alloc (.cells (ZB 64).toArray 45)).cell? (ad.add j) = some v) := fun hp => by
        rw [FN.out] at hp
        obtain ⟨b, o, hA, _, hc2⟩ := CUT.out.2.2 hp
        refine ⟨_, hA, fun j v hj => ?_⟩
        have hj1 := (List.getElem?_eq_some_iff.1 hj).1
        rw [FN.out] at hj1
        have hl := FN.out
        rw [BL.len] at hl
        rw [add_at b o j, hc2 j hj1]
        rw [BL.get _ j (by rw [hl]; exact hj1)] at hj
        rw [← hj]
        congr 3
        have e2 : (ys.drop (k * 64)).take (min (m - k * 64) 64) = (ys.drop (k * 64)).take 64 := by
          rw [List.take_eq_take_iff, List.length_drop, yl.out]
          omega
        rw [e2]
      have BK := Lib.hid (blk64_splice ys k _ rfl)
      clear CUT sl1 sl2
      generalize BL ((ys.drop (k * 64)).take 64) = C at *
      have u3 : (m : Int) % 18446744073709551616 = m := by omega
      go_wp2_with fail
      go_region_law (refine step_copy_splice rfl (.tmp 35) (.tmp 38) 24 24 rfl 5 Tryd.underlying24 Tryd.s5 (some ⟨wr.heap.size, 0, none⟩) (if c' = k * 64 then A' else A'.map (·.add (k * 64))) 64 64 (m - k * 64) (c' - k * 64) (by rfl) (by rfl) wr.heap.size 0 (ZB 64) 45 FG.out C FN.out (fun hp => ⟨rfl, FP.out hp⟩) FF.out F1.out wr.heap.size wr (FB.out.drew) (Nat.le_refl _) ?_; intro w4 hg4 hb4)
      have T4 := Lib.hid (T.out.low hb4)
      have GB : Hid (Blk w4 wr.heap.size 45 (BL (blk64 ys k)).toArray) := by
        have := hg4.out
        rw [BK.out] at this
        exact this
      clear hg4 hb4 BK FG FB F1 FF FP FN T e4 e5
      generalize wr.heap.size = gb at *
      generalize (if c' = k * 64 then A' else Option.map (fun x => x.add (k * 64)) A') = AK at *
      go_wp2_with (first
        | ((with_reducible refine at_load (t := 42) ?_); refine wpList_load_mid rfl 42 _ rfl g 0 rfl (UL (sumL ys k)) _ T4.out.hb.rng Tryd.underlying42 rfl iH.out ?_)
        | ((with_reducible refine at_load (t := 45) ?_); refine wpList_load_mid rfl 45 _ rfl gb 0 rfl (BL (blk64 ys k)) _ GB.out.rng Tryd.underlying45 rfl iB.out ?_))
      refine (BA.out (m : Int) (by omega) (by omega) true _ T4.out.gl).mono ?_
      rintro e w5 ⟨rfl, hb5⟩
      rw [SE.out]
      have T5 := Lib.hid (T4.out.low hb5)
      clear T4 GB hb5 BA SE
      go_wp2_with ((with_reducible refine at_store (t := 42) ?_); refine wpList_store_blk _ rfl 42 _ _ rfl g (UL (sumL ys k)).toArray 42 (UL (sumL ys (k + 1))) rfl rfl T5.out.hb zN.out iN.out oN.out ?_; intro w6 hb6 ho6)
      have T6 := Lib.hid (T5.out.put ho6 hb6)
      clear T5 ho6 hb6 zN iB iH
      refine (sum_any _ m _ ys w6 (T6.out.by_.more (Nat.le_of_lt T6.out.hb.lt)) (by omega) hmc hc' T6.out.gl).mono ?_
      rintro e w7 ⟨rfl, hb7⟩
      have T7 := Lib.hid (T6.out.low hb7)
      have dl : (digestF (sumL ys (k + 1))).length = 32 := idL_len _ 8
      rw [SF.out]
      have iD : Hid ((Tryd.prog.info? 27).map (·.size) = some (BL (digestF (sumL ys (k + 1)))).length) := show _ = _ by rw [BL.len, dl]; exact Tryd.i27
      have zD : Hid ((ZB 32).toArray.size = (BL (digestF (sumL ys (k + 1)))).length) := show _ = _ by rw [BL.len, dl]; rfl
      have oD := Lib.hid (BL.one (digestF (sumL ys (k + 1))))
      have hl8 := Lib.hid (sumL_len ys (k + 1))
      have DD : Hid (∀ i j, i < 8 → j < 4 → (BL (digestF (sumL ys (k + 1))))[4 * i + j]? = some (.int .u8 (byt (gt (sumL ys (k + 1)) i) j : Int))) := fun i j hi hj => by
        rw [BL.get _ _ (by rw [dl]; omega)]
        exact congrArg some (congrArg (Value.int .u8) (idL_getD _ 8 i j hi hj))
      clear dl T6 hb7 SF oN
      generalize digestF (sumL ys (k + 1)) = D at *
      generalize sumL ys (k + 1) = H at *
      go_wp2_with (first
        | ((with_reducible refine at_store (t := 27) ?_); refine wpList_store_blk _ rfl 27 _ _ rfl w7.heap.size (ZB 32).toArray 27 (BL D) rfl rfl (Blk.new w7 27 _) zD.out iD.out oD.out ?_; intro w8 hb8 ho8; have T8 := Lib.hid (T7.out.low (((Below.refl _ w7).alloc (Nat.le_refl _) (.cells (ZB 32).toArray 27)).trans (ho8.below (Nat.le_refl _)))); have I8 := Lib.hid hb8; clear T7 hb8 ho8; generalize w7.heap.size = gi at *)
        | ((with_reducible refine at_load (t := 42) ?_); refine wpList_load_mid rfl 42 _ rfl g 0 rfl (UL H) _ T8.out.hb.rng Tryd.underlying42 rfl iN.out ?_))
      have S8 : Hid (Blk w8 gi 27 (BL D).toArray ∧ Below w.heap.size w w8) := ⟨I8.out, T8.out.below⟩
      clear T8 I8 zD iD oD e0 e2
      go_loopw [49] (fun i wr => ∃ j : Nat, j ≤ 8 ∧ i = .int .i64 j ∧ Blk wr gi 27 (BL D).toArray ∧ Below w.heap.size w wr) (fun i _ => 8 - (intOf i).toNat)
      case atStart => exact ⟨0, Nat.zero_le _, rfl, S8.out⟩
      case round =>
        obtain ⟨j, hj, rfl, hm, hbl⟩ := hrel
        have M := Lib.hid hm
        have BB := Lib.hid hbl
        clear S8 hm hbl
        by_cases hlt2 : j < 8
        · have ix : ∀ W, (Instr.index 42 (.agg (UL H).toArray) (.int .i64 (j : Int))).run Tryd.prog W = .ok (.int .u32 (tn (gt H j) : Int)) W := fun W => idx_one 42 32 8 _ j _ W .u32 Tryd.underlying42 hlt2 (UL.gt (by rw [hl8.out]; exact hlt2)) Tryd.s32 Tryd.underlying32
          have c0 : wr.cell? ⟨gi, 4 * j, none⟩ = some (.int .u8 (byt (gt H j) 0 : Int)) := by rw [M.out.cell, List.getElem?_toArray]; exact DD.out j 0 hlt2 (by omega)
          have c1 : wr.cell? ⟨gi, 4 * j + 1, none⟩ = some (.int .u8 (byt (gt H j) 1 : Int)) := by rw [M.out.cell, List.getElem?_toArray]; exact DD.out j 1 hlt2 (by omega)
          have c2 : wr.cell? ⟨gi, 4 * j + 2, none⟩ = some (.int .u8 (byt (gt H j) 2 : Int)) := by rw [M.out.cell, List.getElem?_toArray]; exact DD.out j 2 hlt2 (by omega)
          have c3 : wr.cell? ⟨gi, 4 * j + 3, none⟩ = some (.int .u8 (byt (gt H j) 3 : Int)) := by rw [M.out.cell, List.getElem?_toArray]; exact DD.out j 3 hlt2 (by omega)
          have PX := put4 (gt H j)
          have b0 := byt_lt (gt H j) 0
          have b1 := byt_lt (gt H j) 1
          have b2 := byt_lt (gt H j) 2
          have b3 := byt_lt (gt H j) 3
          generalize byt (gt H j) 0 = z0 at *
          generalize byt (gt H j) 1 = z1 at *
          generalize byt (gt H j) 2 = z2 at *
          generalize byt (gt H j) 3 = z3 at *
          generalize gt H j = x at *
          go_wp2_with fail
          clear ix
          have m0 : (z0 : Int) % 4294967296 = z0 := by omega
          have m1 : (z1 : Int) % 4294967296 = z1 := by omega
          have m2 : (z2 : Int) % 4294967296 = z2 := by omega
          have m3 : (z3 : Int) % 4294967296 = z3 := by omega
          have q0 : IntKind.i64.wrap (4 * (j : Int)) = 4 * (j : Int) := IntWalk.i64_in _ (by omega)
          have q1 : IntKind.i64.wrap (4 * (j : Int) + 1) = 4 * (j : Int) + 1 := IntWalk.i64_in _ (by omega)
          have q2 : IntKind.i64.wrap (4 * (j : Int) + 2) = 4 * (j : Int) + 2 := IntWalk.i64_in _ (by omega)
          have q3 : IntKind.i64.wrap (4 * (j : Int) + 3) = 4 * (j : Int) + 3 := IntWalk.i64_in _ (by omega)
          have l0 : 0 ≤ 4 * (j : Int) := by omega
          have l1 : 0 ≤ 4 * (j : Int) + 1 := by omega
          have l2 : 0 ≤ 4 * (j : Int) + 2 := by omega
          have l3 : 0 ≤ 4 * (j : Int) + 3 := by omega
          have g0 : 4 * (j : Int) < 32 := by omega
          have g1 : 4 * (j : Int) + 1 < 32 := by omega
          have g2 : 4 * (j : Int) + 2 < 32 := by omega
          have g3 : 4 * (j : Int) + 3 < 32 := by omega
          have n0 : (4 * (j : Int)).toNat = 4 * j := by omega
          have n1 : (4 * (j : Int) + 1).toNat = 4 * j + 1 := by omega
          have n2 : (4 * (j : Int) + 2).toNat = 4 * j + 2 := by omega
          have n3 : (4 * (j : Int) + 3).toNat = 4 * j + 3 := by omega
          have PN : ((tn x : Int) != bits .or .u32 (bits .or .u32 (bits .or .u32 (z0 : Int) ((z1 : Int) * 256)) ((z2 : Int) * 65536)) ((z3 : Int) * 16777216)) = false := by
            rw [show ((z1 : Int) * 256) % 4294967296 = (z1 : Int) * 256 by omega, show ((z2 : Int) * 65536) % 4294967296 = (z2 : Int) * 65536 by omega, show ((z3 : Int) * 16777216) % 4294967296 = (z3 : Int) * 16777216 by omega] at PX
            rw [PX]
            simp
          clear PX
          go_quiet (fail)
          clear m0 m1 m2 m3 q0 q1 q2 q3 l0 l1 l2 l3 g0 g1 g2 g3 n0 n1 n2 n3 c0 c1 c2 c3
          go_wp2_with fail
          exact ⟨⟨j + 1, by omega, by go_num, M.out, BB.out.trans ⟨rfl, rfl, rfl, Nat.le_refl _, fun _ _ => rfl⟩⟩, by simp [intOf]; omega⟩
        · obtain rfl : j = 8 := by omega
          go_wp2_with fail
          go_ret
          exact ⟨rfl, BB.out⟩

end Go.Proofs.YtanoocmdeonikaaDoor
