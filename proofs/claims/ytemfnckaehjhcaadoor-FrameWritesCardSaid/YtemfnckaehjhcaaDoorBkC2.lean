/-
  Sum of more than one block.
-/
import Derived.Test.YtemfnckaehjhcaaDoorBkCb
namespace Go.Proofs.YtemfnckaehjhcaaDoor.Bk
open Go.RowKit
attribute [local go_sem ↓] Tryd.z42 Tryd.z70 Tryd.z27 Tryd.z45 Tryd.z37 Tryd.z38

set_option maxRecDepth 100000 in
set_option maxHeartbeats 8000000 in
theorem sum_many (A : Option Addr) (n c : Nat) (zs : List Int) (w : World) (hz : By w w.heap.size A n zs) (hn : n ≤ 100000) (hnc : n ≤ c) (hc : c ≤ 9223372036854775807) (h1 : 64 < n) (hG : Gl w) :
    Calls Tryd.prog 49 #[.slice A n c] w fun e w' => e = .returned (.agg (BL (sumF zs)).toArray) ∧ Below w.heap.size w w' := by
  have hs : Hid ((w.alloc (.cells (ZB 32).toArray 80)).rangeAt 0 0 (UL startL)) := fun j v hj => (World.cell?_alloc_lt w _ _ (by show 0 < _; have := hG.lt; omega)).trans (hG.s j v hj)
  have T0 : Hid (∀ w2 : World, Only (w.heap.size + 1) ((w.alloc (.cells (ZB 32).toArray 80)).alloc (.cells (ZU 8).toArray 107)) w2 → Blk w2 (w.heap.size + 1) 107 (UL startL).toArray → TW w A n zs startL w2) := fun w2 ho hb =>
    have b := ((Below.refl _ w).alloc (Nat.le_refl _) (.cells (ZB 32).toArray 80)).alloc (by simp) (.cells (ZU 8).toArray 107)
    have b2 := b.trans (ho.below (by omega))
    ⟨b2, hG.low b2, hG.lt, hz.below b2, ho.keep ((Blk.new w 80 _).alloc _) (by omega), hb⟩
  have HZ := Lib.hid hz.1
  have HBS := Lib.hid hz.bs
  obtain ⟨M, hM0⟩ : ∃ M, M = (n + 63) / 64 := ⟨_, rfl⟩
  have hM : Hid (cnt64 zs.length = M) := show _ = _ by rw [hz.1]; unfold cnt64; rw [if_pos (by omega), hM0]
  have hMI : Hid (((n : Int) + 64 - 1) / 64 = (M : Int)) := show _ = _ by omega
  have h1' : (1 : Int) < ((n : Int) + 64 - 1) / 64 := by omega
  have hM1 : 1 < M := by omega
  have hM2 : M ≤ 2000 := by omega
  have hM3 : n ≤ M * 64 ∧ (M - 1) * 64 < n := by omega
  clear hM0
  have HX0 : Hid (∀ w2, TW w A n zs startL w2 → TW w A n zs (sumL zs 0) (w2.setCell ⟨w.heap.size + 1, 0, none⟩ (.int .u32 (bits .xor .u32 (tn (gt startL 0) : Int) 16842784)))) := fun w2 t => by
    have o : Only (w.heap.size + 1) w2 (w2.setCell ⟨w.heap.size + 1, 0, none⟩ (.int .u32 (bits .xor .u32 (tn (gt startL 0) : Int) 16842784))) := ⟨rfl, rfl, rfl, by simp [World.setCell], fun k hk => Below.heap_setCell w2 _ _ k hk⟩
    refine t.put o ?_
    have := t.hb.set_ 0 (.int .u32 (bits .xor .u32 (tn (gt startL 0) : Int) 16842784))
    rw [xor_bv, bv_tn, UL.set] at this
    rw [xor_bv, bv_tn]
    exact this
  clear hz hG
  go_enter Tryd.func49, Tryd.ntmps49
  go_wp2_with (first
    | ((with_reducible refine at_load (t := 107) ?_); refine wpList_load_mid rfl 107 _ rfl 0 0 rfl (UL startL) _ hs.out Tryd.underlying107 rfl Tryd.i42 ?_)
    | ((with_reducible refine at_store (t := 107) ?_); refine wpList_store_blk _ rfl 107 _ _ rfl (w.heap.size + 1) (ZU 8).toArray 107 (UL startL) rfl rfl (Blk.new' _ 107 _ (by simp)) rfl Tryd.i42 (UL.one _) ?_; intro w2 hb2 ho2; have T1 := Lib.hid (T0.out _ ho2 hb2); clear T0 hb2 ho2; have h0 := (T1.out.hb.cell 0).trans (UL.gt (l := startL) (i := 0) (by decide)); have f0 := T1.out.hb.frozen 0))
  have T2 := Lib.hid (HX0.out _ T1.out)
  clear HX0 T1 h0 f0 hs
  generalize w2.setCell ⟨w.heap.size + 1, 0, none⟩ (.int .u32 (bits .xor .u32 (tn (gt startL 0) : Int) 16842784)) = W0 at *
  rw [hMI.out]
  clear h1' hMI
  go_loopw [20] (fun i wr => ∃ k : Nat, k ≤ M ∧ i = .int .i64 k ∧ TW w A n zs (sumL zs k) wr) (fun i _ => M - (intOf i).toNat)
  case atStart => exact ⟨0, Nat.zero_le _, rfl, T2.out⟩
  case round =>
    obtain ⟨k, hk, rfl, ht⟩ := hrel
    have T := Lib.hid ht
    clear T2 ht
    by_cases hlt : k < M
    · have hlt' : (k : Int) < (M : Int) := by omega
      have k0 : (0 : Int) ≤ k := by omega
      have kn : k * 64 ≤ n := by omega
      have F1 := Lib.hid (BL.one ((zs.drop (k * 64)).take 64))
      have FL : Hid ((BL ((zs.drop (k * 64)).take 64)).length = min (n - k * 64) 64) := show _ = _ by rw [BL.len, List.length_take, List.length_drop, HZ.out, Nat.min_comm]
      have FF : Hid (0 + (BL ((zs.drop (k * 64)).take 64)).length ≤ (ZB 64).length) := show _ ≤ _ by rw [FL.out, ZB.len]; omega
      have FG : Hid ((wr.alloc (.cells (ZB 64).toArray 108)).heap[wr.heap.size]? = some (.cells (ZB 64).toArray 108 (0, 0))) := Blk.new wr 108 _
      have FB : Hid (Below wr.heap.size wr (wr.alloc (.cells (ZB 64).toArray 108))) := (Below.refl _ wr).alloc (Nat.le_refl _) _
      have CUT := Lib.hid ((T.out.low FB.out).by_.cut (k := k * 64) (m := min (n - k * 64) 64) (c := c) (by omega) kn hnc)
      have FP : Hid (0 < (BL ((zs.drop (k * 64)).take 64)).length → ∃ ad, (if c = k * 64 then A else A.map (·.add (k * 64))) = some ad ∧ ∀ j v, (BL ((zs.drop (k * 64)).take 64))[j]? = some v → (wr.alloc (.cells (ZB 64).toArray 108)).cell? (ad.add j) = some v) := fun hp => by
        rw [FL.out] at hp
        obtain ⟨b, o, hA, _, hc'⟩ := CUT.out.2.2 hp
        refine ⟨_, hA, fun j v hj => ?_⟩
        have hj1 := (List.getElem?_eq_some_iff.1 hj).1
        rw [FL.out] at hj1
        have e : (⟨b, o, none⟩ : Addr).add j = ⟨b, o + j, none⟩ := by by_cases h0 : j = 0 <;> simp [Addr.add, h0]
        have hl := FL.out
        rw [BL.len] at hl
        rw [e, hc' j hj1]
        rw [BL.get _ j (by rw [hl]; exact hj1)] at hj
        rw [← hj]
        congr 3
        have e2 : (zs.drop (k * 64)).take (min (n - k * 64) 64) = (zs.drop (k * 64)).take 64 := by
          rw [List.take_eq_take_iff, List.length_drop, HZ.out]
          omega
        rw [e2]
      have BK := Lib.hid (blk64_splice zs k _ rfl)
      have SK : Hid (sumL zs (k + 1) = blockF (sumL zs k) (blk64 zs k) (end64 n k : Int) (k == M - 1)) := show _ = _ by rw [sumL, HZ.out, ← hM.out, HZ.out]
      have BA := Lib.hid (fun t t0 t1 last W g => block_any (sumL zs k) (sumL_len zs k) (blk64 zs k) (blk64_len zs k) (blk64_bs HBS.out k) t t0 t1 last W g)
      have e1 : IntKind.i64.wrap ((k : Int) * 64) = (k : Int) * 64 := IntWalk.i64_in _ (by omega)
      have e2 : 0 ≤ (k : Int) * 64 := by omega
      have e4 : ((k : Int) * 64).toNat = k * 64 := by omega
      have e5 : (k : Int) * 64 ≤ n := by omega
      have hcI : (n : Int) ≤ c := by omega
      have n0 : (0 : Int) ≤ n := by omega
      clear CUT
      by_cases he : n < (k + 1) * 64
      · have he' : (n : Int) < ((k : Int) + 1) * 64 := by omega
        have EN : Hid ((end64 n k : Int) = n) := show _ = _ by unfold end64; rw [if_pos he]
        have FN : Hid ((BL ((zs.drop (k * 64)).take 64)).length = Nat.min (n - k * 64) 64) := FL.out
        clear FL
        generalize BL ((zs.drop (k * 64)).take 64) = C at *
        go_wp2_with fail
        go_region_law (refine step_copy_splice rfl (.tmp 29) (.tmp 34) 29 29 rfl 5 Tryd.underlying29 Tryd.s5 (some ⟨wr.heap.size, 0, none⟩) (if c = k * 64 then A else A.map (·.add (k * 64))) 64 64 (n - k * 64) (c - k * 64) (by rfl) (by rfl) wr.heap.size 0 (ZB 64) 108 FG.out C FN.out (fun hp => ⟨rfl, FP.out hp⟩) FF.out F1.out wr.heap.size wr (FB.out.drew) (Nat.le_refl _) ?_; intro w4 hg4 hb4)
        have T4 := Lib.hid (T.out.low hb4)
        have GB : Hid (Blk w4 wr.heap.size 108 (BL (blk64 zs k)).toArray) := by
          have := hg4.out
          rw [BK.out] at this
          exact this
        have SE : Hid (UL (blockF (sumL zs k) (blk64 zs k) ((n : Int)) ((k : Int) == (M : Int) - 1)) = UL (sumL zs (k + 1))) := show _ = _ by
          have hl : ((k : Int) == (M : Int) - 1) = (k == M - 1) := by
            rw [Bool.eq_iff_iff]
            simp only [beq_iff_eq]
            omega
          rw [SK.out, EN.out, hl]
        have iH : Hid ((Tryd.prog.info? 107).map (·.size) = some (UL (sumL zs k)).length) := show _ = _ by rw [UL.len, sumL_len]; exact Tryd.i42
        have iB : Hid ((Tryd.prog.info? 108).map (·.size) = some (BL (blk64 zs k)).length) := show _ = _ by rw [BL.len, blk64_len]; exact Tryd.i45
        have iN : Hid ((Tryd.prog.info? 107).map (·.size) = some (UL (sumL zs (k + 1))).length) := show _ = _ by rw [UL.len, sumL_len]; exact Tryd.i42
        have zN : Hid ((UL (sumL zs k)).toArray.size = (UL (sumL zs (k + 1))).length) := show _ = _ by rw [List.size_toArray, UL.len, UL.len, sumL_len, sumL_len]
        have oN := Lib.hid (UL.one (sumL zs (k + 1)))
        clear hg4 hb4 BK SK EN FG FB F1 FF FP FN T e1 e2 e4 e5
        generalize wr.heap.size = gb at *
        go_wp2_with (first
          | ((with_reducible refine at_load (t := 107) ?_); refine wpList_load_mid rfl 107 _ rfl (w.heap.size + 1) 0 rfl (UL (sumL zs k)) _ T4.out.hb.rng Tryd.underlying107 rfl iH.out ?_)
          | ((with_reducible refine at_load (t := 108) ?_); refine wpList_load_mid rfl 108 _ rfl gb 0 rfl (BL (blk64 zs k)) _ GB.out.rng Tryd.underlying108 rfl iB.out ?_))
        refine (BA.out ((n : Int)) (by omega) (by omega) _ _ T4.out.gl).mono ?_
        rintro e w5 ⟨rfl, hb5⟩
        have T5 := Lib.hid (T4.out.low hb5)
        clear T4 GB hb5 BA
        rw [SE.out]
        go_wp2_with ((with_reducible refine at_store (t := 107) ?_); refine wpList_store_blk _ rfl 107 _ _ rfl (w.heap.size + 1) (UL (sumL zs k)).toArray 107 (UL (sumL zs (k + 1))) rfl rfl T5.out.hb zN.out iN.out oN.out ?_; intro w6 hb6 ho6)
        exact ⟨⟨k + 1, by omega, by go_num, T5.out.put ho6 hb6⟩, by simp [intOf]; omega⟩
      · have he' : ((k : Int) + 1) * 64 ≤ n := by omega
        have e6 : IntKind.i64.wrap ((k : Int) + 1) = (k : Int) + 1 := IntWalk.i64_in _ (by omega)
        have e7 : (((k : Int) + 1) * 64).toNat = (k + 1) * 64 := by omega
        have e8 : 0 ≤ ((k : Int) + 1) * 64 := by omega
        have e9 : (k : Int) * 64 ≤ ((k : Int) + 1) * 64 := by omega
        have ea : ((k : Int) + 1) * 64 ≤ c := by omega
        have eb : (k : Int) ≤ (k : Int) + 1 := by omega
        have EN : Hid ((end64 n k : Int) = ((k : Int) + 1) * 64) := show _ = _ by unfold end64; rw [if_neg he]; omega
        have FN : Hid ((BL ((zs.drop (k * 64)).take 64)).length = Nat.min ((k + 1) * 64 - k * 64) 64) := show _ = _ by rw [FL.out]; show min _ _ = min _ _; omega
        clear FL
        generalize BL ((zs.drop (k * 64)).take 64) = C at *
        go_wp2_with fail
        go_region_law (refine step_copy_splice rfl (.tmp 29) (.tmp 34) 29 29 rfl 5 Tryd.underlying29 Tryd.s5 (some ⟨wr.heap.size, 0, none⟩) (if c = k * 64 then A else A.map (·.add (k * 64))) 64 64 ((k + 1) * 64 - k * 64) (c - k * 64) (by rfl) (by rfl) wr.heap.size 0 (ZB 64) 108 FG.out C FN.out (fun hp => ⟨rfl, FP.out hp⟩) FF.out F1.out wr.heap.size wr (FB.out.drew) (Nat.le_refl _) ?_; intro w4 hg4 hb4)
        have T4 := Lib.hid (T.out.low hb4)
        have GB : Hid (Blk w4 wr.heap.size 108 (BL (blk64 zs k)).toArray) := by
          have := hg4.out
          rw [BK.out] at this
          exact this
        have SE : Hid (UL (blockF (sumL zs k) (blk64 zs k) (((k : Int) + 1) * 64) ((k : Int) == (M : Int) - 1)) = UL (sumL zs (k + 1))) := show _ = _ by
          have hl : ((k : Int) == (M : Int) - 1) = (k == M - 1) := by
            rw [Bool.eq_iff_iff]
            simp only [beq_iff_eq]
            omega
          rw [SK.out, EN.out, hl]
        have iH : Hid ((Tryd.prog.info? 107).map (·.size) = some (UL (sumL zs k)).length) := show _ = _ by rw [UL.len, sumL_len]; exact Tryd.i42
        have iB : Hid ((Tryd.prog.info? 108).map (·.size) = some (BL (blk64 zs k)).length) := show _ = _ by rw [BL.len, blk64_len]; exact Tryd.i45
        have iN : Hid ((Tryd.prog.info? 107).map (·.size) = some (UL (sumL zs (k + 1))).length) := show _ = _ by rw [UL.len, sumL_len]; exact Tryd.i42
        have zN : Hid ((UL (sumL zs k)).toArray.size = (UL (sumL zs (k + 1))).length) := show _ = _ by rw [List.size_toArray, UL.len, UL.len, sumL_len, sumL_len]
        have oN := Lib.hid (UL.one (sumL zs (k + 1)))
        clear e6 e7 e8 e9 ea eb hg4 hb4 BK SK EN FG FB F1 FF FP FN T e1 e2 e4 e5
        generalize wr.heap.size = gb at *
        go_wp2_with (first
          | ((with_reducible refine at_load (t := 107) ?_); refine wpList_load_mid rfl 107 _ rfl (w.heap.size + 1) 0 rfl (UL (sumL zs k)) _ T4.out.hb.rng Tryd.underlying107 rfl iH.out ?_)
          | ((with_reducible refine at_load (t := 108) ?_); refine wpList_load_mid rfl 108 _ rfl gb 0 rfl (BL (blk64 zs k)) _ GB.out.rng Tryd.underlying108 rfl iB.out ?_))
        refine (BA.out (((k : Int) + 1) * 64) (by omega) (by omega) _ _ T4.out.gl).mono ?_
        rintro e w5 ⟨rfl, hb5⟩
        have T5 := Lib.hid (T4.out.low hb5)
        clear T4 GB hb5 BA
        rw [SE.out]
        go_wp2_with ((with_reducible refine at_store (t := 107) ?_); refine wpList_store_blk _ rfl 107 _ _ rfl (w.heap.size + 1) (UL (sumL zs k)).toArray 107 (UL (sumL zs (k + 1))) rfl rfl T5.out.hb zN.out iN.out oN.out ?_; intro w6 hb6 ho6)
        exact ⟨⟨k + 1, by omega, by go_num, T5.out.put ho6 hb6⟩, by simp [intOf]; omega⟩
    · obtain rfl : k = M := by omega
      have iH : Hid ((Tryd.prog.info? 107).map (·.size) = some (UL (sumL zs k)).length) := show _ = _ by rw [UL.len, sumL_len]; exact Tryd.i42
      have DG := Lib.hid (digest_any (sumL zs k) (sumL_len zs k))
      have dl : (digestF (sumL zs k)).length = 32 := idL_len _ 8
      have SF : Hid (digestF (sumL zs k) = sumF zs) := show _ = _ by unfold sumF; rw [hM.out]
      have iD : Hid ((Tryd.prog.info? 80).map (·.size) = some (BL (digestF (sumL zs k))).length) := show _ = _ by rw [BL.len, dl]; exact Tryd.i27
      have iDA : Hid ((Tryd.prog.info? 80).map (·.size) = some (BL (digestF (sumL zs k))).toArray.size) := show _ = _ by rw [List.size_toArray, BL.len, dl]; exact Tryd.i27
      have zD : Hid ((ZB 32).toArray.size = (BL (digestF (sumL zs k))).length) := show _ = _ by rw [BL.len, dl]; rfl
      have oD := Lib.hid (BL.one (digestF (sumL zs k)))
      clear dl
      go_wp2_with ((with_reducible refine at_load (t := 107) ?_); refine wpList_load_mid rfl 107 _ rfl (w.heap.size + 1) 0 rfl (UL (sumL zs k)) _ T.out.hb.rng Tryd.underlying107 rfl iH.out ?_)
      refine (DG.out _).mono ?_
      rintro e w5 ⟨rfl, hb5⟩
      have T5 := Lib.hid (T.out.low hb5)
      clear T hb5 DG
      go_wp2_with ((with_reducible refine at_store (t := 80) ?_); refine wpList_store_blk _ rfl 80 _ _ rfl w.heap.size (ZB 32).toArray 80 (BL (digestF (sumL zs k))) rfl rfl T5.out.res zD.out iD.out oD.out ?_; intro w6 hb6 ho6)
      refine bodyPost_ret (results_cell_row (p := 2) (ty := 80) rfl _ _ w.heap.size 80 _ (0, 0) _ rfl hb6 Tryd.underlying80 rfl iDA.out) rfl ?_
      rw [SF.out]
      exact ⟨rfl, T5.out.below.trans (ho6.below (Nat.le_refl _))⟩


end Go.Proofs.YtemfnckaehjhcaaDoor.Bk
