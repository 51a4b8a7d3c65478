/-
  wakes.
-/
import Derived.Test.YtbemnolgolecaaaDoorC3
import Derived.Test.YtbemnolgolecaaaDoorC2a
import Derived.Test.YtbemnolgolecaaaDoorEq
import Derived.Lib.SlBytesConst
namespace Go.Proofs.YtbemnolgolecaaaDoor
open Go.RowKit
attribute [local go_sem ↓] Tryd.z42 Tryd.z70 Tryd.z27 Tryd.z45 Tryd.z37 Tryd.z38

def abcId : List Int := ofd abcText 32
theorem abcId_len : abcId.length = 32 := ofd_len _ _
theorem parse_abc (w : World) : Calls Tryd.prog 28 #[.string abcText] w fun e w' => e = .returned (.tuple #[.agg (BL abcId).toArray, .int .i64 0]) ∧ Below w.heap.size w w' := by
  have h := parse_64 abcText (by rfl) w
  have e1 : pId abcText = abcId := if_pos abc_ok
  have e2 : pEr abcText = 0 := if_pos abc_ok
  rw [e1, e2] at h
  exact h
theorem orders_idx (w : World) : (Instr.index 38 (.agg (IL ordersL.flatten).toArray) (.int .i64 9)).run Tryd.prog w = .ok (.agg (IL [10, 2, 8, 4, 7, 6, 1, 5, 15, 11, 9, 14, 3, 12, 13, 0]).toArray) w := by kernel_rfl
theorem row_idx (w : World) : (Instr.index 37 (.agg (IL [10, 2, 8, 4, 7, 6, 1, 5, 15, 11, 9, 14, 3, 12, 13, 0]).toArray) (.int .i64 0)).run Tryd.prog w = .ok (.int .i64 10) w := by kernel_rfl

set_option maxRecDepth 100000 in
set_option maxHeartbeats 4000000 in
theorem wakes_any (w : World) (hG : Gl w) : Calls Tryd.prog 10 #[] w fun e w' => e = .returned (.bool true) ∧ Below w.heap.size w w' := by
  have hl : (ZB 32).length = 32 := rfl
  have PA := Lib.hid (parse_abc w)
  have G0 := Lib.hid hG
  have D := Lib.hid (BL.one abcId)
  have DL : Hid ((Tryd.prog.info? 27).map (·.size) = some (BL abcId).length) := show _ = _ by rw [BL.len, abcId_len]; exact Tryd.i27
  have DZ : Hid ((ZB 32).toArray.size = (BL abcId).length) := show _ = _ by rw [BL.len, abcId_len]; rfl
  have EQ : Hid (∀ w, (binOp .eql 27 (.agg (BL (sumF [97, 98, 99])).toArray) (.agg (BL abcId).toArray)).run Tryd.prog w = .ok (.bool true) w) := fun w => by
    rw [show sumF [97, 98, 99] = abcId from abc_sum, eq27 w _ _ abcId_len abcId_len]
    simp
  clear hG
  have LS : Hid (∀ w, Calls Tryd.prog 26 #[.agg (ZB 32).toArray, .agg (BL abcId).toArray] w fun e w' => e = .returned (.bool true) ∧ Below w.heap.size w w') := fun w => by
    have := less_any Z32 abcId (by rfl) abcId_len w
    rw [show decide (cmpL Z32 abcId < 0) = true from decide_eq_true abc_less] at this
    rw [ZB.bl]
    exact this
  go_enter Tryd.func10, Tryd.ntmps10
  go_wp2_with fail
  refine PA.out.mono ?_
  rintro e w1 ⟨rfl, hb1⟩
  have G1 := Lib.hid (G0.out.low hb1)
  have B1 := Lib.hid hb1
  clear PA G0 hb1
  go_wp2_with ((with_reducible refine at_store (t := 27) ?_); refine wpList_store_blk _ rfl 27 _ _ rfl w1.heap.size (ZB 32).toArray 27 (BL abcId) rfl rfl (Blk.new w1 27 _) DZ.out DL.out D.out ?_; intro w2 hb2 ho2)
  have b2 : Below w1.heap.size w1 w2 := ((Below.refl _ w1).alloc (Nat.le_refl _) _).trans (ho2.below (Nat.le_refl _))
  have G2 := Lib.hid (G1.out.low b2)
  have B2 := Lib.hid (B1.out.trans (b2.mono B1.out.size))
  have I2 := Lib.hid hb2
  clear G1 B1 b2 ho2 hb2
  generalize w1.heap.size = gi at *
  have i27 := DL.out
  have hu := Tryd.underlying27
  have hone := D.out
  have q0 : w2.rangeAt gi 0 (BL abcId) := I2.out.rng
  have q1 : w2.drew.rangeAt gi 0 (BL abcId) := q0
  have q1f : w2.drew.frozen? ⟨gi, 0, none⟩ = false := I2.out.frozen 0
  have q0f : w2.frozen? ⟨gi, 0, none⟩ = false := I2.out.frozen 0
  have heq := EQ.out
  have hcv : (convert 24 24 (.slice (some ⟨w2.heap.size, 0, none⟩) 3 3)).run Tryd.prog (w2.alloc (.cells #[.int .u8 97, .int .u8 98, .int .u8 99] 5)).drew = .ok (.slice (some ⟨w2.heap.size, 0, none⟩) 3 3) (w2.alloc (.cells #[.int .u8 97, .int .u8 98, .int .u8 99] 5 (3, 4))).drew :=
    Lib.run_convert_bytes_const (P := Tryd.prog) w2.drew 24 5 #[.int .u8 97, .int .u8 98, .int .u8 99] 3 3 Tryd.underlying24 Tryd.underlying5
  have I1 : Hid ((w2.alloc (.cells #[.int .u8 97, .int .u8 98, .int .u8 99] 5)).drew.rangeAt gi 0 (BL abcId)) := (I2.out.alloc (.cells #[.int .u8 97, .int .u8 98, .int .u8 99] 5)).rng
  have hx1 := orders_idx
  have hx2 := row_idx
  have bA : Below w2.heap.size w2 (w2.alloc (.cells #[.int .u8 97, .int .u8 98, .int .u8 99] 5 (3, 4))).drew := ((Below.refl _ w2).alloc (Nat.le_refl _) _).drew
  have GA := Lib.hid (G2.out.low bA)
  have IA := Lib.hid (I2.out.below bA I2.out.lt)
  have SM := Lib.hid (sum_one (some ⟨w2.heap.size, 0, none⟩) 3 3 [97, 98, 99] (w2.alloc (.cells #[.int .u8 97, .int .u8 98, .int .u8 99] 5 (3, 4))).drew
    ⟨rfl, fun j => by
      match j with
      | 0 => decide
      | 1 => decide
      | 2 => decide
      | j + 3 => simp [List.getD], fun _ => ⟨w2.heap.size, 0, rfl, by show _ < (w2.alloc _).heap.size; simp, fun j hj => by
      have hb : (w2.alloc (.cells #[.int .u8 97, .int .u8 98, .int .u8 99] 5 (3, 4))).heap[w2.heap.size]? = some (.cells #[.int .u8 97, .int .u8 98, .int .u8 99] 5 (3, 4)) := heap_alloc_new w2 _
      rw [Nat.zero_add]
      refine (cell_of_row (w2.alloc (.cells #[.int .u8 97, .int .u8 98, .int .u8 99] 5 (3, 4))) w2.heap.size j _ 5 (3, 4) hb).trans ?_
      match j, hj with
      | 0, _ => rfl
      | 1, _ => rfl
      | 2, _ => rfl⟩⟩ (by omega) (by omega) (by omega) (by omega) (by omega) GA.out)
  have KA := Lib.hid bA
  clear bA
  have hS0 : w2.drew.rangeAt gi 0 (BL abcId) := q1
  refine wp_region_noPanic ?_
  refine wp_region_held_drew (S := fun w' => w'.rangeAt gi 0 (BL abcId)) (by kernel_rfl) hS0 (fun hHeld => ?_)
  refine wpAnyH_take (i := 0) (v := .int .i64 0) rfl (by kernel_rfl) (by kernel_rfl) (by kernel_rfl) (fun _ _ _ h => h) (Or.inl ⟨by rfl, fun w _ => by go_simp⟩) hHeld ?_
  refine wpAnyH_take (i := 1) (v := .bool true) rfl (by kernel_rfl) (by kernel_rfl) (by kernel_rfl) (fun _ _ _ h => h) (Or.inl ⟨by rfl, fun w _ => by go_simp⟩) hHeld ?_
  refine wpAnyH_take (i := 2) (v := .bool true) rfl (by kernel_rfl) (by kernel_rfl) (by kernel_rfl) (fun _ _ _ h => h) (Or.inl ⟨by rfl, fun w _ => by go_simp⟩) hHeld ?_
  refine wpAnyH_take (i := 6) (v := .agg (BL abcId).toArray) rfl (by kernel_rfl) (by kernel_rfl) (by kernel_rfl) (fun _ _ _ h => h) (yieldsIf_load_mid (by rfl) _ _ rfl _ _ rfl _ _ (fun w h => h) Tryd.underlying27 rfl i27) hHeld ?_
  refine wpAnyH_ready (rs := [3]) (by kernel_rfl) (by simp) ?_
  refine AllReadyH.cons rfl (fun K hK => ?_) AllReadyH.nil
  go_simp
  refine hK.out _ _ I1.out (fun hHeld => ?_)
  clear hK K
  refine wpAnyH_ready (rs := [4]) (by kernel_rfl) (by simp) ?_
  refine AllReadyH.cons rfl (fun K hK => ?_) AllReadyH.nil
  go_simp
  refine hK.out _ _ (IA.out.rng) (fun hHeld => ?_)
  clear hK K
  refine wpAnyH_ready (rs := [5]) (by kernel_rfl) (by simp) ?_
  refine AllReadyH.cons rfl (fun K hK => ?_) AllReadyH.nil
  go_simp
  refine SM.out.mono ?_
  rintro e w3 ⟨rfl, k1⟩
  have I3 := IA.out.below k1 IA.out.lt
  refine hK.out _ _ I3.rng (fun hHeld => ?_)
  clear hK K
  refine wpAnyH_take (i := 7) (v := .bool true) rfl (by kernel_rfl) (by kernel_rfl) (by kernel_rfl) (fun _ _ _ h => h) (Or.inl ⟨by rfl, fun w _ => by go_simp⟩) hHeld ?_
  refine wpAnyH_take (i := 8) (v := .bool true) rfl (by kernel_rfl) (by kernel_rfl) (by kernel_rfl) (fun _ _ _ h => h) (Or.inl ⟨by rfl, fun w _ => by go_simp⟩) hHeld ?_
  refine wpAnyH_take (i := 9) (v := .bool true) rfl (by kernel_rfl) (by kernel_rfl) (by kernel_rfl) (fun _ _ _ h => h) (Or.inl ⟨by rfl, fun w _ => by go_simp⟩) hHeld ?_
  refine wpAnyH_take (i := 10) (v := .agg (ZB 32).toArray) rfl (by kernel_rfl) (by kernel_rfl) (by kernel_rfl) (fun _ _ _ h => h) (Or.inl ⟨by rfl, fun w _ => by go_simp⟩) hHeld ?_
  refine wpAnyH_take (i := 11) (v := .agg (BL abcId).toArray) rfl (by kernel_rfl) (by kernel_rfl) (by kernel_rfl) (fun _ _ _ h => h) (yieldsIf_load_mid (by rfl) _ _ rfl _ _ rfl _ _ (fun w h => h) Tryd.underlying27 rfl i27) hHeld ?_
  refine wpAnyH_ready (rs := [12]) (by kernel_rfl) (by simp) ?_
  refine AllReadyH.cons rfl (fun K hK => ?_) AllReadyH.nil
  go_simp
  refine (LS.out _).mono ?_
  rintro e w4 ⟨rfl, k2⟩
  have I4 := I3.below k2 I3.lt
  refine hK.out _ _ I4.rng (fun hHeld => ?_)
  clear hK K
  refine wpAnyH_take (i := 13) (v := .bool true) rfl (by kernel_rfl) (by kernel_rfl) (by kernel_rfl) (fun _ _ _ h => h) (Or.inl ⟨by rfl, fun w _ => by go_simp⟩) hHeld ?_
  refine wpAnyH_take (i := 14) (v := .bool true) rfl (by kernel_rfl) (by kernel_rfl) (by kernel_rfl) (fun _ _ _ h => h) (Or.inl ⟨by rfl, fun w _ => by go_simp⟩) hHeld ?_
  refine wpAnyH_ready (rs := [15]) (by kernel_rfl) (by simp) ?_
  refine AllReadyH.cons rfl (fun K hK => ?_) AllReadyH.nil
  go_simp
  refine (orders_any _ ((GA.out.low k1).low k2)).mono ?_
  rintro e w5 ⟨rfl, k3⟩
  have I5 := I4.below k3 I4.lt
  refine hK.out _ _ I5.rng (fun hHeld => ?_)
  clear hK K
  refine wpAnyH_take (i := 16) (v := .agg (IL [10, 2, 8, 4, 7, 6, 1, 5, 15, 11, 9, 14, 3, 12, 13, 0]).toArray) rfl (by kernel_rfl) (by kernel_rfl) (by kernel_rfl) (fun _ _ _ h => h) (Or.inl ⟨by rfl, fun w _ => by go_simp⟩) hHeld ?_
  refine wpAnyH_take (i := 17) (v := .int .i64 10) rfl (by kernel_rfl) (by kernel_rfl) (by kernel_rfl) (fun _ _ _ h => h) (Or.inl ⟨by rfl, fun w _ => by go_simp⟩) hHeld ?_
  refine wpAnyH_take (i := 18) (v := .bool true) rfl (by kernel_rfl) (by kernel_rfl) (by kernel_rfl) (fun _ _ _ h => h) (Or.inl ⟨by rfl, fun w _ => by go_simp⟩) hHeld ?_
  refine wpAnyH_take (i := 19) (v := .bool true) rfl (by kernel_rfl) (by kernel_rfl) (by kernel_rfl) (fun _ _ _ h => h) (Or.inl ⟨by rfl, fun w _ => by go_simp⟩) hHeld ?_
  refine wpAnyH_take (i := 20) (v := .bool true) rfl (by kernel_rfl) (by kernel_rfl) (by kernel_rfl) (fun _ _ _ h => h) (Or.inl ⟨by rfl, fun w _ => by go_simp⟩) hHeld ?_
  refine wpAnyH_done (by kernel_rfl) ?_ _
  refine NoPanic.normal ?_
  go_wp2
  go_ret
  exact ⟨rfl, (((B2.out.trans (KA.out.mono B2.out.size)).trans (k1.mono (B2.out.trans (KA.out.mono B2.out.size)).size)).trans (k2.mono (Nat.le_trans (B2.out.trans (KA.out.mono B2.out.size)).size k1.size))).trans (k3.mono (Nat.le_trans (Nat.le_trans (B2.out.trans (KA.out.mono B2.out.size)).size k1.size) k2.size))⟩

end Go.Proofs.YtbemnolgolecaaaDoor
