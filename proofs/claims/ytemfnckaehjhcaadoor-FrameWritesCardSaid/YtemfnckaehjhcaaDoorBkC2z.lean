/-
  Sum of no bytes.
-/
import Derived.Test.YtemfnckaehjhcaaDoorBkCb
namespace Go.Proofs.YtemfnckaehjhcaaDoor.Bk
open Go.RowKit
attribute [local go_sem ↓] Tryd.z42 Tryd.z70 Tryd.z27 Tryd.z45 Tryd.z37 Tryd.z38

theorem By.none' {w : World} {B : Nat} {A : Option Addr} : By w B A 0 [] := ⟨rfl, fun j => by simp, fun h => absurd h (by omega)⟩

set_option maxRecDepth 100000 in
set_option maxHeartbeats 8000000 in
theorem sum_zero (A : Option Addr) (w : World) (hG : Gl w) :
    Calls Tryd.prog 49 #[.slice A 0 0] w fun e w' => e = .returned (.agg (BL (sumF [])).toArray) ∧ Below w.heap.size w w' := by
  have hz : By w w.heap.size A 0 [] := By.none'
  have hs : Hid ((w.alloc (.cells (ZB 32).toArray 80)).rangeAt 0 0 (UL startL)) := fun j v hj => (World.cell?_alloc_lt w _ _ (by show 0 < _; have := hG.lt; omega)).trans (hG.s j v hj)
  have T0 : Hid (∀ w2 : World, Only (w.heap.size + 1) ((w.alloc (.cells (ZB 32).toArray 80)).alloc (.cells (ZU 8).toArray 107)) w2 → Blk w2 (w.heap.size + 1) 107 (UL startL).toArray → TW w A 0 [] startL w2) := fun w2 ho hb =>
    have b := ((Below.refl _ w).alloc (Nat.le_refl _) (.cells (ZB 32).toArray 80)).alloc (by simp) (.cells (ZU 8).toArray 107)
    have b2 := b.trans (ho.below (by omega))
    ⟨b2, hG.low b2, hG.lt, hz.below b2, ho.keep ((Blk.new w 80 _).alloc _) (by omega), hb⟩
  have HZ := Lib.hid hz.1
  have HBS := Lib.hid hz.bs
  have hM : Hid (cnt64 ([] : List Int).length = 1) := show _ = _ from rfl
  clear HZ HBS
  have HX0 : Hid (∀ w2, TW w A 0 [] startL w2 → TW w A 0 [] (sumL [] 0) (w2.setCell ⟨w.heap.size + 1, 0, none⟩ (.int .u32 (bits .xor .u32 (tn (gt startL 0) : Int) 16842784)))) := fun w2 t => by
    have o : Only (w.heap.size + 1) w2 (w2.setCell ⟨w.heap.size + 1, 0, none⟩ (.int .u32 (bits .xor .u32 (tn (gt startL 0) : Int) 16842784))) := ⟨rfl, rfl, rfl, by simp [World.setCell], fun k hk => Below.heap_setCell w2 _ _ k hk⟩
    refine t.put o ?_
    have := t.hb.set_ 0 (.int .u32 (bits .xor .u32 (tn (gt startL 0) : Int) 16842784))
    rw [xor_bv, bv_tn, UL.set] at this
    rw [xor_bv, bv_tn]
    exact this
  clear hz hG
  go_enter Tryd.func49, Tryd.ntmps49
  go_wp2_with (first
    | ((with_reducible refine at_load (t := 107) ?_); refine wpList_load_mid rfl 107 _ rfl 0 0 rfl (UL startL) _ hs.out Tryd.underlying107 rfl Tryd.i42 ?_)
    | ((with_reducible refine at_store (t := 107) ?_); refine wpList_store_blk _ rfl 107 _ _ rfl (w.heap.size + 1) (ZU 8).toArray 107 (UL startL) rfl rfl (Blk.new' _ 107 _ (by simp)) rfl Tryd.i42 (UL.one _) ?_; intro w2 hb2 ho2; have T1 := Lib.hid (T0.out _ ho2 hb2); clear T0 hb2 ho2; have h0 := (T1.out.hb.cell 0).trans (UL.gt (l := startL) (i := 0) (by decide)); have f0 := T1.out.hb.frozen 0))
  have T2 := Lib.hid (HX0.out _ T1.out)
  clear HX0 T1 h0 f0 hs
  generalize w2.setCell ⟨w.heap.size + 1, 0, none⟩ (.int .u32 (bits .xor .u32 (tn (gt startL 0) : Int) 16842784)) = W0 at *
  go_loopw [20] (fun i wr => ∃ k : Nat, k ≤ 1 ∧ i = .int .i64 k ∧ TW w A 0 [] (sumL [] k) wr) (fun i _ => 1 - (intOf i).toNat)
  case atStart => exact ⟨0, Nat.zero_le _, rfl, T2.out⟩
  case round =>
    obtain ⟨k, hk, rfl, ht⟩ := hrel
    have T := Lib.hid ht
    clear T2 ht
    by_cases hlt : k < 1
    · obtain rfl : k = 0 := by omega
      have FG : Hid ((wr.alloc (.cells (ZB 64).toArray 108)).heap[wr.heap.size]? = some (.cells (ZB 64).toArray 108 (0, 0))) := Blk.new wr 108 _
      have FB : Hid (Below wr.heap.size wr (wr.alloc (.cells (ZB 64).toArray 108))) := (Below.refl _ wr).alloc (Nat.le_refl _) _
      have BA := Lib.hid (fun t t0 t1 last W g => block_any (sumL [] 0) (sumL_len [] 0) (blk64 [] 0) (blk64_len [] 0) (blk64_bs (zs := []) (fun j => by simp) 0) t t0 t1 last W g)
      have BK : Hid (splice (ZB 64) 0 ([] : List Value) = BL (blk64 [] 0)) := blk64_splice [] 0 [] rfl
      have SE : Hid (UL (blockF (sumL [] 0) (blk64 [] 0) 0 true) = UL (sumL [] 1)) := show _ = _ by
        have e1 : (end64 ([] : List Int).length 0 : Int) = 0 := by decide
        have e2 : ((0 : Nat) == cnt64 ([] : List Int).length - 1) = true := by decide
        rw [show sumL [] 1 = blockF (sumL [] 0) (blk64 [] 0) (end64 ([] : List Int).length 0 : Int) ((0 : Nat) == cnt64 ([] : List Int).length - 1) from rfl, e1, e2]
      have hw0 : IntKind.i64.wrap 0 = 0 := rfl
      go_wp2_with fail
      go_region_law (refine step_copy_splice rfl (.tmp 29) (.tmp 34) 29 29 rfl 5 Tryd.underlying29 Tryd.s5 (some ⟨wr.heap.size, 0, none⟩) A 64 64 0 0 (by rfl) (by rfl) wr.heap.size 0 (ZB 64) 108 FG.out [] rfl (fun hp => absurd hp (by simp)) (by simp) (fun v hv => by cases hv) wr.heap.size wr (FB.out.drew) (Nat.le_refl _) ?_; intro w4 hg4 hb4)
      have T4 := Lib.hid (T.out.low hb4)
      have GB : Hid (Blk w4 wr.heap.size 108 (BL (blk64 [] 0)).toArray) := by
        have := hg4.out
        rw [BK.out] at this
        exact this
      have iH : Hid ((Tryd.prog.info? 107).map (·.size) = some (UL (sumL [] 0)).length) := show _ = _ by rw [UL.len, sumL_len]; exact Tryd.i42
      have iB : Hid ((Tryd.prog.info? 108).map (·.size) = some (BL (blk64 [] 0)).length) := show _ = _ by rw [BL.len, blk64_len]; exact Tryd.i45
      have iN : Hid ((Tryd.prog.info? 107).map (·.size) = some (UL (sumL [] 1)).length) := show _ = _ by rw [UL.len, sumL_len]; exact Tryd.i42
      have zN : Hid ((UL (sumL [] 0)).toArray.size = (UL (sumL [] 1)).length) := show _ = _ by rw [List.size_toArray, UL.len, UL.len, sumL_len, sumL_len]
      have oN := Lib.hid (UL.one (sumL [] 1))
      clear hg4 hb4 BK FG FB T
      generalize wr.heap.size = gb at *
      go_wp2_with (first
        | ((with_reducible refine at_load (t := 107) ?_); refine wpList_load_mid rfl 107 _ rfl (w.heap.size + 1) 0 rfl (UL (sumL [] 0)) _ T4.out.hb.rng Tryd.underlying107 rfl iH.out ?_)
        | ((with_reducible refine at_load (t := 108) ?_); refine wpList_load_mid rfl 108 _ rfl gb 0 rfl (BL (blk64 [] 0)) _ GB.out.rng Tryd.underlying108 rfl iB.out ?_))
      refine (BA.out 0 (by omega) (by omega) true _ T4.out.gl).mono ?_
      rintro e w5 ⟨rfl, hb5⟩
      have T5 := Lib.hid (T4.out.low hb5)
      clear T4 GB hb5 BA
      rw [SE.out]
      go_wp2_with ((with_reducible refine at_store (t := 107) ?_); refine wpList_store_blk _ rfl 107 _ _ rfl (w.heap.size + 1) (UL (sumL [] 0)).toArray 107 (UL (sumL [] 1)) rfl rfl T5.out.hb zN.out iN.out oN.out ?_; intro w6 hb6 ho6)
      exact ⟨⟨1, by omega, by go_num, T5.out.put ho6 hb6⟩, by simp [intOf]⟩
    · obtain rfl : k = 1 := by omega
      have iH : Hid ((Tryd.prog.info? 107).map (·.size) = some (UL (sumL [] 1)).length) := show _ = _ by rw [UL.len, sumL_len]; exact Tryd.i42
      have DG := Lib.hid (digest_any (sumL [] 1) (sumL_len [] 1))
      have dl : (digestF (sumL [] 1)).length = 32 := idL_len _ 8
      have SF : Hid (digestF (sumL [] 1) = sumF []) := show _ = _ by unfold sumF; rw [hM.out]
      have iD : Hid ((Tryd.prog.info? 80).map (·.size) = some (BL (digestF (sumL [] 1))).length) := show _ = _ by rw [BL.len, dl]; exact Tryd.i27
      have iDA : Hid ((Tryd.prog.info? 80).map (·.size) = some (BL (digestF (sumL [] 1))).toArray.size) := show _ = _ by rw [List.size_toArray, BL.len, dl]; exact Tryd.i27
      have zD : Hid ((ZB 32).toArray.size = (BL (digestF (sumL [] 1))).length) := show _ = _ by rw [BL.len, dl]; rfl
      have oD := Lib.hid (BL.one (digestF (sumL [] 1)))
      clear dl
      go_wp2_with ((with_reducible refine at_load (t := 107) ?_); refine wpList_load_mid rfl 107 _ rfl (w.heap.size + 1) 0 rfl (UL (sumL [] 1)) _ T.out.hb.rng Tryd.underlying107 rfl iH.out ?_)
      refine (DG.out _).mono ?_
      rintro e w5 ⟨rfl, hb5⟩
      have T5 := Lib.hid (T.out.low hb5)
      clear T hb5 DG
      go_wp2_with ((with_reducible refine at_store (t := 80) ?_); refine wpList_store_blk _ rfl 80 _ _ rfl w.heap.size (ZB 32).toArray 80 (BL (digestF (sumL [] 1))) rfl rfl T5.out.res zD.out iD.out oD.out ?_; intro w6 hb6 ho6)
      refine bodyPost_ret (results_cell_row (p := 2) (ty := 80) rfl _ _ w.heap.size 80 _ (0, 0) _ rfl hb6 Tryd.underlying80 rfl iDA.out) rfl ?_
      rw [SF.out]
      exact ⟨rfl, T5.out.below.trans (ho6.below (Nat.le_refl _))⟩

end Go.Proofs.YtemfnckaehjhcaaDoor.Bk
