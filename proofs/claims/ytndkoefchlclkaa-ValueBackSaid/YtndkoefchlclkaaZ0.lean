/-
  The document's bytes of a value.
-/
import Derived.Test.YtndkoefchlclkaaW1
namespace Go.Proofs.Ytndkoefchlclkaa
open Go.RowKit
attribute [local go_sem ↓] eqV neV eqG

/-- One value in a block of its own, and what lies below. -/
structure BV (w0 : World) (k n : Int) (s : ByteArray) (w : World) : Prop where
  v : V3 w w0.heap.size k n s
  size : w0.heap.size + 1 ≤ w.heap.size
  bel : Below w0.heap.size w0 w
section
variable {w0 w w' : World} {k n : Int} {s : ByteArray}
theorem BV.box : BV w k n s (w.alloc (.cells #[.int .i64 k, .int .i64 n, .string s] 23)) := ⟨V3.box rfl, by simp, (Below.refl _ w).alloc (Nat.le_refl _) _⟩
theorem BV.at_ (h : BV w0 k n s w) (hb : Below (w0.heap.size + 1) w w') : BV w0 k n s w' := ⟨h.v.below hb (Nat.lt_succ_self _), Nat.le_trans h.size hb.size, h.bel.trans (hb.mono (Nat.le_succ _))⟩
theorem BV.on (h : BV w0 k n s w) (hb : Below w.heap.size w w') : BV w0 k n s w' := h.at_ (hb.mono h.size)
theorem BV.grow (h : BV w0 k n s w) {o : Obj} {row : Option Nat} (hg : (w.alloc o).grownBy w' row) (hr : ∀ k, row = some k → w0.heap.size + 1 ≤ k) : BV w0 k n s w' :=
  h.at_ (((Below.refl _ w).alloc h.size o).grown hg (by have := h.size; simp; omega) hr)
theorem BV.cells (h : BV w0 k n s w) : w.cell? ⟨w0.heap.size, 0, none⟩ = some (.int .i64 k) ∧ w.cell? ⟨w0.heap.size, 1, none⟩ = some (.int .i64 n) ∧ w.cell? ⟨w0.heap.size, 2, none⟩ = some (.string s) := h.v
end

set_option maxRecDepth 100000 in
set_option maxHeartbeats 2000000 in
theorem rb_null  (w : World) : Calls Try.prog 35 #[.agg #[.int .i64 1, .int .i64 0, .string E0]] w (Grown w w.heap.size ([1])) := by
  have V0 : BV w 1 0 E0 (w.alloc (.cells #[.int .i64 1, .int .i64 0, .string E0] 23)) := BV.box
  go_enter Try.func35, Try.ntmps35
  go_upto_region 1 with (fail)
  generalize w.alloc (.cells #[.int .i64 1, .int .i64 0, .string E0] 23) = w1 at *
  obtain ⟨c0, c1, c2⟩ := V0.cells
  go_upto_region 2 with (fail)
  have HO := Lib.hid (Own.one w1 V0.size 1 (by omega))
  have V2 := V0.on ((Below.refl _ w1).alloc (Nat.le_refl _) (.cells #[.int .u8 1] 5))
  clear c0 c1 c2 V0
  generalize w1.alloc (.cells #[.int .u8 1] 5) = W2 at *
  generalize w1.heap.size = g at *
  obtain ⟨c0, c1, c2⟩ := V2.cells
  go_wp2
  go_ret
  exact ⟨_, _, rfl, HO.out.down (Nat.le_succ _), V2.bel⟩

set_option maxRecDepth 100000 in
set_option maxHeartbeats 2000000 in
theorem rb_bool (n : Int) (hn : n = 0 ∨ n = 1) (w : World) : Calls Try.prog 35 #[.agg #[.int .i64 2, .int .i64 n, .string E0]] w (Grown w w.heap.size ([2, n])) := by
  have V0 : BV w 2 n E0 (w.alloc (.cells #[.int .i64 2, .int .i64 n, .string E0] 23)) := BV.box
  have hw : IntKind.u8.wrap n = n := by rw [IntKind.wrap_u8]; omega
  have HNN := Lib.hid hn
  clear hn
  go_enter Try.func35, Try.ntmps35
  go_upto_region 1 with (fail)
  generalize w.alloc (.cells #[.int .i64 2, .int .i64 n, .string E0] 23) = w1 at *
  obtain ⟨c0, c1, c2⟩ := V0.cells
  go_upto_region 2 with (fail)
  have HO := Lib.hid (Own.one w1 V0.size 2 (by omega))
  have V2 := V0.on ((Below.refl _ w1).alloc (Nat.le_refl _) (.cells #[.int .u8 2] 5))
  clear c0 c1 c2 V0
  generalize w1.alloc (.cells #[.int .u8 2] 5) = W2 at *
  generalize w1.heap.size = g at *
  obtain ⟨c0, c1, c2⟩ := V2.cells
  go_wp2_with (at_builtin; refine append_by rfl (.tmp 13) (.tmp 17) rfl (w.heap.size + 1) (some ⟨g, 0, none⟩) 1 1 [2] rfl (HO.out.new1 _) (W2.heap.size + 1) (some ⟨W2.heap.size, 0, none⟩) 1 1 [n] rfl (By.one (by rcases HNN.out with rfl | rfl <;> omega)) (fun h => by cases h) (by omega) (by have := V2.size; simp; omega) ?_; intro A3 c3 w3 ho3 hg3; have V3 := V2.grow hg3 (fun k hk => (HO.out.1.lt k hk).1); have HO3 := Lib.hid ho3; clear hg3 ho3; obtain ⟨x03, x13, x23⟩ := V3.cells)
  go_ret
  exact ⟨_, _, rfl, HO3.out.down (Nat.le_succ _), V3.bel⟩

set_option maxRecDepth 100000 in
set_option maxHeartbeats 2000000 in
theorem rb_int_m (n : Int) (hn : n < 0) (w : World) : Calls Try.prog 35 #[.agg #[.int .i64 3, .int .i64 n, .string E0]] w (Grown w w.heap.size ([3] ++ be 8 (top64 n))) := by
  have V0 : BV w 3 n E0 (w.alloc (.cells #[.int .i64 3, .int .i64 n, .string E0] 23)) := BV.box
  have hx : IntKind.u64.wrap (IntKind.u64.wrap n - 9223372036854775808) = top64 n := by unfold top64; rw [IntKind.wrap_u64, IntKind.wrap_u64]; omega
  have ht : 0 ≤ top64 n ∧ top64 n < 18446744073709551616 := by unfold top64; omega
  obtain ⟨X, hX⟩ := Int.eq_ofNat_of_zero_le ht.1
  rw [hX] at hx ht ⊢
  have HX : Hid (X < 18446744073709551616) := show _ < _ by omega
  clear ht hX
  go_enter Try.func35, Try.ntmps35
  go_upto_region 1 with (fail)
  generalize w.alloc (.cells #[.int .i64 3, .int .i64 n, .string E0] 23) = w1 at *
  obtain ⟨c0, c1, c2⟩ := V0.cells
  go_upto_region 2 with (fail)
  have HO := Lib.hid (Own.one w1 V0.size 3 (by omega))
  have V2 := V0.on ((Below.refl _ w1).alloc (Nat.le_refl _) (.cells #[.int .u8 3] 5))
  clear c0 c1 c2 V0
  generalize w1.alloc (.cells #[.int .u8 3] 5) = W2 at *
  generalize w1.heap.size = g at *
  obtain ⟨c0, c1, c2⟩ := V2.cells
  go_wp2_with fail
  refine (high_any X 8 _ HX.out (by omega)).mono ?_
  rintro e w3 ⟨rfl, hr, hb⟩
  have V3 := V2.on hb
  have HO3 := Lib.hid (HO.out.below hb)
  have HY := Lib.hid (By.of_blk hr (be_bs _ _) (be_len _ _))
  have SZ := Lib.hid (Blk.lt hr)
  clear hb hr c0 c1 c2 V2
  obtain ⟨c0, c1, c2⟩ := V3.cells
  go_wp2_with fail
  refine (both_any _ _ _ _ _ _ _ _ w3 w3.heap.size HO3.out.by (fun h => by cases h) (HY.out.more SZ.out) (fun h => by cases h) (Nat.le_refl _) (by omega) (by omega)).mono ?_
  rintro e w4 ⟨A4, c4, rfl, ho4, hb4⟩
  have HO4 := Lib.hid (ho4.down (Nat.le_trans (Nat.le_succ _) V3.size))
  have V4 := V3.on hb4
  clear hb4 ho4 c0 c1 c2 V3
  obtain ⟨c0, c1, c2⟩ := V4.cells
  go_wp2
  go_ret
  exact ⟨A4, c4, rfl, HO4.out, V4.bel⟩

set_option maxRecDepth 100000 in
set_option maxHeartbeats 2000000 in
theorem rb_int_p (n : Int) (hn : ¬ n < 0) (w : World) : Calls Try.prog 35 #[.agg #[.int .i64 3, .int .i64 n, .string E0]] w (Grown w w.heap.size ([3] ++ be 8 (top64 n))) := by
  have V0 : BV w 3 n E0 (w.alloc (.cells #[.int .i64 3, .int .i64 n, .string E0] 23)) := BV.box
  have hx : IntKind.u64.wrap (IntKind.u64.wrap n + 9223372036854775808) = top64 n := by unfold top64; rw [IntKind.wrap_u64, IntKind.wrap_u64]; omega
  have ht : 0 ≤ top64 n ∧ top64 n < 18446744073709551616 := by unfold top64; omega
  obtain ⟨X, hX⟩ := Int.eq_ofNat_of_zero_le ht.1
  rw [hX] at hx ht ⊢
  have HX : Hid (X < 18446744073709551616) := show _ < _ by omega
  clear ht hX
  go_enter Try.func35, Try.ntmps35
  go_upto_region 1 with (fail)
  generalize w.alloc (.cells #[.int .i64 3, .int .i64 n, .string E0] 23) = w1 at *
  obtain ⟨c0, c1, c2⟩ := V0.cells
  go_upto_region 2 with (fail)
  have HO := Lib.hid (Own.one w1 V0.size 3 (by omega))
  have V2 := V0.on ((Below.refl _ w1).alloc (Nat.le_refl _) (.cells #[.int .u8 3] 5))
  clear c0 c1 c2 V0
  generalize w1.alloc (.cells #[.int .u8 3] 5) = W2 at *
  generalize w1.heap.size = g at *
  obtain ⟨c0, c1, c2⟩ := V2.cells
  go_wp2_with fail
  refine (high_any X 8 _ HX.out (by omega)).mono ?_
  rintro e w3 ⟨rfl, hr, hb⟩
  have V3 := V2.on hb
  have HO3 := Lib.hid (HO.out.below hb)
  have HY := Lib.hid (By.of_blk hr (be_bs _ _) (be_len _ _))
  have SZ := Lib.hid (Blk.lt hr)
  clear hb hr c0 c1 c2 V2
  obtain ⟨c0, c1, c2⟩ := V3.cells
  go_wp2_with fail
  refine (both_any _ _ _ _ _ _ _ _ w3 w3.heap.size HO3.out.by (fun h => by cases h) (HY.out.more SZ.out) (fun h => by cases h) (Nat.le_refl _) (by omega) (by omega)).mono ?_
  rintro e w4 ⟨A4, c4, rfl, ho4, hb4⟩
  have HO4 := Lib.hid (ho4.down (Nat.le_trans (Nat.le_succ _) V3.size))
  have V4 := V3.on hb4
  clear hb4 ho4 c0 c1 c2 V3
  obtain ⟨c0, c1, c2⟩ := V4.cells
  go_wp2
  go_ret
  exact ⟨A4, c4, rfl, HO4.out, V4.bel⟩

set_option maxRecDepth 100000 in
set_option maxHeartbeats 2000000 in
theorem rb_text (s : ByteArray) (hs : s.size ≤ 64) (w : World) : Calls Try.prog 35 #[.agg #[.int .i64 4, .int .i64 0, .string s]] w (Grown w w.heap.size ([4] ++ txt (sb s) ++ [0, 0])) := by
  have V0 : BV w 4 0 s (w.alloc (.cells #[.int .i64 4, .int .i64 0, .string s] 23)) := BV.box
  have HSS := Lib.hid hs
  have SL := Lib.hid (sb_len s)
  have SB := Lib.hid (sb_bs s)
  go_enter Try.func35, Try.ntmps35
  go_upto_region 1 with (fail)
  generalize w.alloc (.cells #[.int .i64 4, .int .i64 0, .string s] 23) = w1 at *
  obtain ⟨c0, c1, c2⟩ := V0.cells
  go_upto_region 2 with (fail)
  have HO := Lib.hid (Own.one w1 V0.size 4 (by omega))
  have V2 := V0.on ((Below.refl _ w1).alloc (Nat.le_refl _) (.cells #[.int .u8 4] 5))
  clear c0 c1 c2 V0
  generalize w1.alloc (.cells #[.int .u8 4] 5) = W2 at *
  generalize w1.heap.size = g at *
  obtain ⟨c0, c1, c2⟩ := V2.cells
  go_wp2
  clear c0 c1 c2
  go_loopw [3, 5] (fun v i wr => ∃ k A' c', k ≤ s.size ∧ i = .int .i64 k ∧ v = .slice A' ([4] ++ txt ((sb s).take k)).length c' ∧ Own wr (w.heap.size + 1) A' ([4] ++ txt ((sb s).take k)).length c' ([4] ++ txt ((sb s).take k)) ∧ BV w 4 0 s wr) (fun _ i _ => s.size - (intOf i).toNat)
  case atStart => exact ⟨0, some ⟨g, 0, none⟩, 1, Nat.zero_le _, rfl, by simp [txt], by simpa [txt] using HO.out, V2⟩
  case round =>
    clear HO V2
    obtain ⟨k, A', c', hk, rfl, rfl, ho, VR⟩ := hrel
    have LN : Hid (([4] ++ txt ((sb s).take k)).length ≤ 3000) := show _ ≤ _ by
      have := txt_len ((sb s).take k)
      have h64 := HSS.out
      rw [List.length_take, SL.out] at this
      rw [List.length_append]
      simp only [List.length_cons, List.length_nil]
      omega
    obtain ⟨c0, c1, c2⟩ := VR.cells
    by_cases hlt : k < s.size
    · have hz := sb_at s k hlt
      have hzb := SB.out k
      have hnext := take_snoc (sb s) k (by rw [SL.out]; exact hlt)
      rw [hz] at hzb hnext
      have hT := txt_append ((sb s).take k) [((s[k]).toNat : Int)]
      rw [← hnext] at hT
      have HO := Lib.hid ho
      have k0 : (0 : Int) ≤ (k : Int) := Int.natCast_nonneg k
      have kn : (k : Int) < (s.size : Int) := by omega
      have HZ := Lib.hid hzb
      have HT : Hid ([4] ++ txt ((sb s).take (k + 1)) = ([4] ++ txt ((sb s).take k)) ++ txt [((s[k]).toNat : Int)]) := show _ = _ by rw [hT, List.append_assoc]
      clear ho hz hzb hnext hT
      generalize [4] ++ txt ((sb s).take k) = ZS at *
      by_cases hz0 : ((s[k]).toNat : Int) = 0
      · have hzz : (((s[k]).toNat : Int) == 0) = true := by rw [hz0]; rfl
        have HT' : Hid ([4] ++ txt ((sb s).take (k + 1)) = ZS ++ [((s[k]).toNat : Int)] ++ [255]) := show _ = _ by rw [HT.out, hz0]; simp [txt]
        clear HT
        clear hz0
        go_wp2_with (first
          | (at_builtin; refine append_by rfl (.tmp 46) (.tmp 51) rfl (w.heap.size + 1) A' ZS.length c' ZS rfl (HO.out.new1 _) (wr.heap.size + 1) (some ⟨wr.heap.size, 0, none⟩) 1 1 [((s[k]).toNat : Int)] rfl (By.one HZ.out) (fun h => by cases h) (by have := LN.out; omega) (by have := VR.size; simp; omega) ?_; intro A4 c4 w4 ho4 hg4; have V4 := VR.grow hg4 (fun k hk => (HO.out.1.lt k hk).1); have HO4 := Lib.hid ho4; clear hg4 ho4; obtain ⟨x04, x14, x24⟩ := V4.cells)
          | (at_builtin; refine append_by rfl (.tmp 58) (.tmp 59) rfl (w.heap.size + 1) A4 (ZS.length + 1) c4 (ZS ++ [((s[k]).toNat : Int)]) rfl (HO4.out.new1 _) (w4.heap.size + 1) (some ⟨w4.heap.size, 0, none⟩) 1 1 [255] rfl (By.one (by omega)) (fun h => by cases h) (by have := LN.out; omega) (by have := V4.size; simp; omega) ?_; intro A5 c5 w5 ho5 hg5; have V5 := V4.grow hg5 (fun k hk => (HO4.out.1.lt k hk).1); have HO5 := Lib.hid ho5; clear hg5 ho5; obtain ⟨x05, x15, x25⟩ := V5.cells))
        go_roundw
        case rel => exact ⟨k + 1, A5, c5, by omega, by go_num, by rw [HT'.out]; simp, by rw [HT'.out]; simpa using HO5.out, V5⟩
        case measure => simp [intOf]; omega
      · have hzz : (((s[k]).toNat : Int) == 0) = false := by simp; omega
        have HT' : Hid ([4] ++ txt ((sb s).take (k + 1)) = ZS ++ [((s[k]).toNat : Int)]) := show _ = _ by rw [HT.out, show txt [((s[k]).toNat : Int)] = [((s[k]).toNat : Int)] from if_neg hz0]
        clear HT
        clear hz0
        go_wp2_with (at_builtin; refine append_by rfl (.tmp 46) (.tmp 51) rfl (w.heap.size + 1) A' ZS.length c' ZS rfl (HO.out.new1 _) (wr.heap.size + 1) (some ⟨wr.heap.size, 0, none⟩) 1 1 [((s[k]).toNat : Int)] rfl (By.one HZ.out) (fun h => by cases h) (by have := LN.out; omega) (by have := VR.size; simp; omega) ?_; intro A4 c4 w4 ho4 hg4; have V4 := VR.grow hg4 (fun k hk => (HO.out.1.lt k hk).1); have HO4 := Lib.hid ho4; clear hg4 ho4; obtain ⟨x04, x14, x24⟩ := V4.cells)
        go_roundw
        case rel => exact ⟨k + 1, A4, c4, by omega, by go_num, by rw [HT'.out]; simp, by rw [HT'.out]; simpa using HO4.out, V4⟩
        case measure => simp [intOf]; omega
    · obtain rfl : k = s.size := by omega
      have HF : Hid (txt ((sb s).take s.size) = txt (sb s)) := show _ = _ by rw [List.take_of_length_le (by rw [SL.out]; exact Nat.le_refl _)]
      rw [HF.out] at ho LN ⊢
      have HO := Lib.hid ho
      clear ho HF
      go_wp2_with (at_builtin; refine append_by rfl (.tmp 61) (.tmp 62) rfl (w.heap.size + 1) A' ([4] ++ txt (sb s)).length c' ([4] ++ txt (sb s)) rfl (HO.out.new1 _) (wr.heap.size + 1) (some ⟨wr.heap.size, 0, none⟩) 2 2 [0, 0] rfl (By.two) (fun h => by cases h) (by have := LN.out; omega) (by have := VR.size; simp; omega) ?_; intro A6 c6 w6 ho6 hg6; have V6 := VR.grow hg6 (fun k hk => (HO.out.1.lt k hk).1); have HO6 := Lib.hid ho6; clear hg6 ho6; obtain ⟨x06, x16, x26⟩ := V6.cells)
      go_ret
      have L2 : (4 :: (txt (sb s) ++ [0, 0])).length = (txt (sb s)).length + 1 + 2 := by simp
      have HF := HO6.out.down (Nat.le_succ w.heap.size)
      exact ⟨A6, c6, by rw [L2]; rfl, by first | (rw [L2]; simpa using HF) | simpa using HF, V6.bel⟩

theorem refbytes_any (k n : Int) (s : ByteArray) (h : Rt k n s = true) (w : World) : Calls Try.prog 35 #[.agg #[.int .i64 k, .int .i64 n, .string s]] w (Grown w w.heap.size (encF k n s)) := by
  have h' := of_decide_eq_true h
  rcases h' with ⟨rfl, rfl, rfl⟩ | ⟨rfl, hn, rfl⟩ | ⟨rfl, rfl⟩ | ⟨rfl, rfl, hs⟩
  · exact rb_null w
  · exact rb_bool n hn w
  · by_cases hm : n < 0
    · exact rb_int_m n hm w
    · exact rb_int_p n hm w
  · exact rb_text s hs w

end Go.Proofs.Ytndkoefchlclkaa
